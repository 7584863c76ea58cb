/-
  Texts of my own, joined: no statement is proved here.
-/
import Derived.Test.YtdnjddpfcgginaaGreatKaw
import Derived.Test.YtdnjddpfcgginaaGreatKax
import Derived.Test.YtdnjddpfcgginaaGreatKaz
set_option linter.unusedSimpArgs false
set_option linter.unusedVariables false
namespace Go.Proofs.YtdnjddpfcgginaaGreat
open Go.ChangeShapes Go.WideShapes Go.ChangeAt Go.RowKit
set_option maxRecDepth 100000
set_option maxHeartbeats 8000000 in
theorem an8 {w:World} {U:Nat→Prop} {g B:Nat} {q:Int→Nat} {Z Z':Tz} {E:Int} (h:Tx w U g q B Z) (o:Oz) (s:Sv) (hk:o.k=8)
 (hR:∀ w',Below w.heap.size w w'→Calls Tryz.prog 59 #[.pointer (some ⟨g,0,none⟩), .agg (opC o s).toArray] w' fun e u=>Ret e U g B Z Z' E w' u):
 Calls Tryz.prog 27 #[.pointer (some ⟨g,0,none⟩), .agg (opC o s).toArray] w fun e w'=>Ret e U g B Z Z' E w w':=by
 have hU:=h.low
 go_enter Tryz.func27,Tryz.ntmps27
 go_wp2_with (first
  | (refine Z05 (by rfl) _ (by rfl) o s (by rfl) ?_;intro g1 w1 z1 z2 r1 b1
     have Bc:=b1
     have v1:=b1.size
     have c10:=r1.cell 0 _ rfl
     rw [hk]at c10)
  | (refine Z02 (by rfl) (by rfl) ?_;intro g2 w2 z3 z4 r2 b2
     replace Bc:=Z00q Bc b2 (Nat.le_refl _)
     have v2:=b2.size
     replace r1:=r1.later b2
     clear c10
     have c10:=r1.cell 0 _ rfl
     rw [hk]at c10)
  | (refine Z0k 37 8 _ Z0r (by rfl) _ (by rfl) g1 (by rfl) _ r1 rfl ?_)
  | (go_at_call 59;refine(hR _ Bc).mono ?_;rintro e w3 ⟨A,q',rfl,hA,G⟩
     have r2':=r2.step G.stp (fun e=>by have:=hU g2 e;omega))
  | (refine Z03 (by rfl) _ _ (by rfl) g2 (by rfl) A 0 hA (by rfl) _ r2' rfl ?_;intro w9 r9 s9))
 exact bodyPost_ret (Z0d Z06 Tryz.results27 rfl rfl r9 hA.len) rfl ⟨A,q',rfl,hA,TxG.fin hU Bc G (by omega) (by omega) s9⟩
set_option maxHeartbeats 8000000 in
theorem an9 {w:World} {U:Nat→Prop} {g B:Nat} {q:Int→Nat} {Z Z':Tz} {E:Int} (h:Tx w U g q B Z) (o:Oz) (s:Sv) (hk:o.k=9)
 (hR:∀ w',Below w.heap.size w w'→Calls Tryz.prog 60 #[.pointer (some ⟨g,0,none⟩), .agg (opC o s).toArray] w' fun e u=>Ret e U g B Z Z' E w' u):
 Calls Tryz.prog 27 #[.pointer (some ⟨g,0,none⟩), .agg (opC o s).toArray] w fun e w'=>Ret e U g B Z Z' E w w':=by
 have hU:=h.low
 go_enter Tryz.func27,Tryz.ntmps27
 go_wp2_with (first
  | (refine Z05 (by rfl) _ (by rfl) o s (by rfl) ?_;intro g1 w1 z1 z2 r1 b1
     have Bc:=b1
     have v1:=b1.size
     have c10:=r1.cell 0 _ rfl
     rw [hk]at c10)
  | (refine Z02 (by rfl) (by rfl) ?_;intro g2 w2 z3 z4 r2 b2
     replace Bc:=Z00q Bc b2 (Nat.le_refl _)
     have v2:=b2.size
     replace r1:=r1.later b2
     clear c10
     have c10:=r1.cell 0 _ rfl
     rw [hk]at c10)
  | (refine Z0k 37 8 _ Z0r (by rfl) _ (by rfl) g1 (by rfl) _ r1 rfl ?_)
  | (go_at_call 60;refine(hR _ Bc).mono ?_;rintro e w3 ⟨A,q',rfl,hA,G⟩
     have r2':=r2.step G.stp (fun e=>by have:=hU g2 e;omega))
  | (refine Z03 (by rfl) _ _ (by rfl) g2 (by rfl) A 0 hA (by rfl) _ r2' rfl ?_;intro w9 r9 s9))
 exact bodyPost_ret (Z0d Z06 Tryz.results27 rfl rfl r9 hA.len) rfl ⟨A,q',rfl,hA,TxG.fin hU Bc G (by omega) (by omega) s9⟩
set_option maxHeartbeats 8000000 in
theorem an10 {w:World} {U:Nat→Prop} {g B:Nat} {q:Int→Nat} {Z Z':Tz} {E:Int} (h:Tx w U g q B Z) (o:Oz) (s:Sv) (hk:o.k=10)
 (hR:∀ w',Below w.heap.size w w'→Calls Tryz.prog 61 #[.pointer (some ⟨g,0,none⟩), .agg (opC o s).toArray] w' fun e u=>Ret e U g B Z Z' E w' u):
 Calls Tryz.prog 27 #[.pointer (some ⟨g,0,none⟩), .agg (opC o s).toArray] w fun e w'=>Ret e U g B Z Z' E w w':=by
 have hU:=h.low
 go_enter Tryz.func27,Tryz.ntmps27
 go_wp2_with (first
  | (refine Z05 (by rfl) _ (by rfl) o s (by rfl) ?_;intro g1 w1 z1 z2 r1 b1
     have Bc:=b1
     have v1:=b1.size
     have c10:=r1.cell 0 _ rfl
     rw [hk]at c10)
  | (refine Z02 (by rfl) (by rfl) ?_;intro g2 w2 z3 z4 r2 b2
     replace Bc:=Z00q Bc b2 (Nat.le_refl _)
     have v2:=b2.size
     replace r1:=r1.later b2
     clear c10
     have c10:=r1.cell 0 _ rfl
     rw [hk]at c10)
  | (refine Z0k 37 8 _ Z0r (by rfl) _ (by rfl) g1 (by rfl) _ r1 rfl ?_)
  | (go_at_call 61;refine(hR _ Bc).mono ?_;rintro e w3 ⟨A,q',rfl,hA,G⟩
     have r2':=r2.step G.stp (fun e=>by have:=hU g2 e;omega))
  | (refine Z03 (by rfl) _ _ (by rfl) g2 (by rfl) A 0 hA (by rfl) _ r2' rfl ?_;intro w9 r9 s9))
 exact bodyPost_ret (Z0d Z06 Tryz.results27 rfl rfl r9 hA.len) rfl ⟨A,q',rfl,hA,TxG.fin hU Bc G (by omega) (by omega) s9⟩
set_option maxHeartbeats 8000000 in
theorem an11 {w:World} {U:Nat→Prop} {g B:Nat} {q:Int→Nat} {Z Z':Tz} {E:Int} (h:Tx w U g q B Z) (o:Oz) (s:Sv) (hk:o.k=11)
 (hR:∀ w',Below w.heap.size w w'→Calls Tryz.prog 62 #[.pointer (some ⟨g,0,none⟩), .agg (opC o s).toArray] w' fun e u=>Ret e U g B Z Z' E w' u):
 Calls Tryz.prog 27 #[.pointer (some ⟨g,0,none⟩), .agg (opC o s).toArray] w fun e w'=>Ret e U g B Z Z' E w w':=by
 have hU:=h.low
 go_enter Tryz.func27,Tryz.ntmps27
 go_wp2_with (first
  | (refine Z05 (by rfl) _ (by rfl) o s (by rfl) ?_;intro g1 w1 z1 z2 r1 b1
     have Bc:=b1
     have v1:=b1.size
     have c10:=r1.cell 0 _ rfl
     rw [hk]at c10)
  | (refine Z02 (by rfl) (by rfl) ?_;intro g2 w2 z3 z4 r2 b2
     replace Bc:=Z00q Bc b2 (Nat.le_refl _)
     have v2:=b2.size
     replace r1:=r1.later b2
     clear c10
     have c10:=r1.cell 0 _ rfl
     rw [hk]at c10)
  | (refine Z0k 37 8 _ Z0r (by rfl) _ (by rfl) g1 (by rfl) _ r1 rfl ?_)
  | (go_at_call 62;refine(hR _ Bc).mono ?_;rintro e w3 ⟨A,q',rfl,hA,G⟩
     have r2':=r2.step G.stp (fun e=>by have:=hU g2 e;omega))
  | (refine Z03 (by rfl) _ _ (by rfl) g2 (by rfl) A 0 hA (by rfl) _ r2' rfl ?_;intro w9 r9 s9))
 exact bodyPost_ret (Z0d Z06 Tryz.results27 rfl rfl r9 hA.len) rfl ⟨A,q',rfl,hA,TxG.fin hU Bc G (by omega) (by omega) s9⟩
set_option maxHeartbeats 8000000 in
theorem an12 {w:World} {U:Nat→Prop} {g B:Nat} {q:Int→Nat} {Z Z':Tz} {E:Int} (h:Tx w U g q B Z) (o:Oz) (s:Sv) (hk:o.k=12)
 (hR:∀ w',Below w.heap.size w w'→Calls Tryz.prog 63 #[.pointer (some ⟨g,0,none⟩), .agg (opC o s).toArray] w' fun e u=>Ret e U g B Z Z' E w' u):
 Calls Tryz.prog 27 #[.pointer (some ⟨g,0,none⟩), .agg (opC o s).toArray] w fun e w'=>Ret e U g B Z Z' E w w':=by
 have hU:=h.low
 go_enter Tryz.func27,Tryz.ntmps27
 go_wp2_with (first
  | (refine Z05 (by rfl) _ (by rfl) o s (by rfl) ?_;intro g1 w1 z1 z2 r1 b1
     have Bc:=b1
     have v1:=b1.size
     have c10:=r1.cell 0 _ rfl
     rw [hk]at c10)
  | (refine Z02 (by rfl) (by rfl) ?_;intro g2 w2 z3 z4 r2 b2
     replace Bc:=Z00q Bc b2 (Nat.le_refl _)
     have v2:=b2.size
     replace r1:=r1.later b2
     clear c10
     have c10:=r1.cell 0 _ rfl
     rw [hk]at c10)
  | (refine Z0k 37 8 _ Z0r (by rfl) _ (by rfl) g1 (by rfl) _ r1 rfl ?_)
  | (go_at_call 63;refine(hR _ Bc).mono ?_;rintro e w3 ⟨A,q',rfl,hA,G⟩
     have r2':=r2.step G.stp (fun e=>by have:=hU g2 e;omega))
  | (refine Z03 (by rfl) _ _ (by rfl) g2 (by rfl) A 0 hA (by rfl) _ r2' rfl ?_;intro w9 r9 s9))
 exact bodyPost_ret (Z0d Z06 Tryz.results27 rfl rfl r9 hA.len) rfl ⟨A,q',rfl,hA,TxG.fin hU Bc G (by omega) (by omega) s9⟩
set_option maxHeartbeats 8000000 in
theorem an13 {w:World} {U:Nat→Prop} {g B:Nat} {q:Int→Nat} {Z Z':Tz} {E:Int} (h:Tx w U g q B Z) (o:Oz) (s:Sv) (hk:o.k=13)
 (hR:∀ w',Below w.heap.size w w'→Calls Tryz.prog 64 #[.pointer (some ⟨g,0,none⟩), .agg (opC o s).toArray] w' fun e u=>Ret e U g B Z Z' E w' u):
 Calls Tryz.prog 27 #[.pointer (some ⟨g,0,none⟩), .agg (opC o s).toArray] w fun e w'=>Ret e U g B Z Z' E w w':=by
 have hU:=h.low
 go_enter Tryz.func27,Tryz.ntmps27
 go_wp2_with (first
  | (refine Z05 (by rfl) _ (by rfl) o s (by rfl) ?_;intro g1 w1 z1 z2 r1 b1
     have Bc:=b1
     have v1:=b1.size
     have c10:=r1.cell 0 _ rfl
     rw [hk]at c10)
  | (refine Z02 (by rfl) (by rfl) ?_;intro g2 w2 z3 z4 r2 b2
     replace Bc:=Z00q Bc b2 (Nat.le_refl _)
     have v2:=b2.size
     replace r1:=r1.later b2
     clear c10
     have c10:=r1.cell 0 _ rfl
     rw [hk]at c10)
  | (refine Z0k 37 8 _ Z0r (by rfl) _ (by rfl) g1 (by rfl) _ r1 rfl ?_)
  | (go_at_call 64;refine(hR _ Bc).mono ?_;rintro e w3 ⟨A,q',rfl,hA,G⟩
     have r2':=r2.step G.stp (fun e=>by have:=hU g2 e;omega))
  | (refine Z03 (by rfl) _ _ (by rfl) g2 (by rfl) A 0 hA (by rfl) _ r2' rfl ?_;intro w9 r9 s9))
 exact bodyPost_ret (Z0d Z06 Tryz.results27 rfl rfl r9 hA.len) rfl ⟨A,q',rfl,hA,TxG.fin hU Bc G (by omega) (by omega) s9⟩
set_option maxHeartbeats 8000000 in
theorem an15 {w:World} {U:Nat→Prop} {g B:Nat} {q:Int→Nat} {Z Z':Tz} (h:Tx w U g q B Z) (o:Oz) (s:Sv) (hk:o.k=15):
 Calls Tryz.prog 27 #[.pointer (some ⟨g,0,none⟩), .agg (opC o s).toArray] w fun e w'=>Ret e U g B Z Z 0 w w':=by
 have hU:=h.low
 go_enter Tryz.func27,Tryz.ntmps27
 go_wp2_with (first
  | (refine Z05 (by rfl) _ (by rfl) o s (by rfl) ?_;intro g1 w1 z1 z2 r1 b1
     have Bc:=b1
     have v1:=b1.size
     have c10:=r1.cell 0 _ rfl
     rw [hk]at c10)
  | (refine Z02 (by rfl) (by rfl) ?_;intro g2 w2 z3 z4 r2 b2
     replace Bc:=Z00q Bc b2 (Nat.le_refl _)
     have v2:=b2.size
     replace r1:=r1.later b2
     clear c10
     have c10:=r1.cell 0 _ rfl
     rw [hk]at c10)
  | (refine Z03 (by rfl) _ _ (by rfl) g2 (by rfl) anZ 0 Z0c (by rfl) _ r2 rfl ?_;intro w9 r9 s9))
 exact bodyPost_ret (Z0d Z06 Tryz.results27 rfl rfl r9 rfl) rfl (Z16 Z0c ((TxG.same h Bc (by omega) s9).more (Nat.le_succ B)))
set_option maxHeartbeats 8000000 in
theorem an0 {w:World} {U:Nat→Prop} {g B:Nat} {q:Int→Nat} {Z Z':Tz} (h:Tx w U g q B Z) (o:Oz) (s:Sv)  (q1:(o.k==1)=false) (q2:(o.k==2)=false) (q3:(o.k==3)=false) (q4:(o.k==4)=false) (q5:(o.k==5)=false) (q6:(o.k==6)=false) (q7:(o.k==7)=false) (q8:(o.k==8)=false) (q9:(o.k==9)=false) (q10:(o.k==10)=false) (q11:(o.k==11)=false) (q12:(o.k==12)=false) (q13:(o.k==13)=false) (q14:(o.k==14)=false) (q15:(o.k==15)=false):
 Calls Tryz.prog 27 #[.pointer (some ⟨g,0,none⟩), .agg (opC o s).toArray] w fun e w'=>Ret e U g B Z Z' 2 w w':=by
 have hU:=h.low
 go_enter Tryz.func27,Tryz.ntmps27
 go_wp2_with (first
  | (refine Z05 (by rfl) _ (by rfl) o s (by rfl) ?_;intro g1 w1 z1 z2 r1 b1
     have Bc:=b1
     have v1:=b1.size
     have c10:=r1.cell 0 _ rfl)
  | (refine Z02 (by rfl) (by rfl) ?_;intro g2 w2 z3 z4 r2 b2
     replace Bc:=Z00q Bc b2 (Nat.le_refl _)
     have v2:=b2.size
     replace r1:=r1.later b2
     clear c10
     have c10:=r1.cell 0 _ rfl)
  | (refine Z03 (by rfl) _ _ (by rfl) g2 (by rfl) anZ 0 Z0c (by rfl) _ r2 rfl ?_;intro w9 r9 s9))
 exact bodyPost_ret (Z0d Z06 Tryz.results27 rfl rfl r9 rfl) rfl (Z0q (by decide) (TxG.same h Bc (by omega) s9))
set_option maxHeartbeats 8000000 in
theorem an14 {w:World} {U:Nat→Prop} {g B:Nat} {q:Int→Nat} {Z Z':Tz} (h:Tx w U g q B Z) (o:Oz) (s:Sv) (hk:o.k=14):
 Calls Tryz.prog 27 #[.pointer (some ⟨g,0,none⟩), .agg (opC o s).toArray] w fun e w'=>Ret e U g B Z Z (Z04 Z.t o.fd) w w':=by
 have hU:=h.low
 go_enter Tryz.func27,Tryz.ntmps27
 go_upto_region 29 with(first
  | (refine Z05 (by rfl) _ (by rfl) o s (by rfl) ?_;intro g1 w1 z1 z2 r1 b1
     have Bc:=b1
     have v1:=b1.size
     have c10:=r1.cell 0 _ rfl
     rw [hk]at c10)
  | (refine Z02 (by rfl) (by rfl) ?_;intro g2 w2 z3 z4 r2 b2
     replace Bc:=Z00q Bc b2 (Nat.le_refl _)
     have v2:=b2.size
     replace r1:=r1.later b2
     clear c10
     have c10:=r1.cell 0 _ rfl
     rw [hk]at c10))
 go_cut [6,7] (fun u v wx=>∃ g6,u= .pointer (some ⟨g6,0,none⟩)∧v= .int .i64 (Z04 Z.t o.fd)∧Below w2.heap.size w2 wx)
 case first=>
  obtain⟨tg,mb,ob,nb,sv,H2,hU2⟩:=h.later Bc
  refine wp_region_held_drew (S:=fun u=>Below w2.heap.size w2 u) (by kernel_rfl) (Below.refl _ _).drew (fun hHeld=>?_)
  refine tl 0 (.pointer (some ⟨g,0,none⟩)) rfl ?_
  try simp only [z]
  refine tl 1 (.pointer (some ⟨g,0,none⟩)) rfl ?_
  try simp only [z]
  refine tl 2 (.pointer (some ⟨g,2,none⟩)) rfl ?_
  try simp only [z]
  refine tl 3 (.pointer (some ⟨ob,0,none⟩)) rfl ?_ (fun u hu=>by have x1:=(H2.later hu).c2;go_simp)
  try simp only [z]
  refine tl 4 (.pointer (some ⟨g1,3,none⟩)) rfl ?_
  try simp only [z]
  refine tl 5 (.int .i64 o.fd) rfl ?_ (fun u hu=>by have x1:=(r1.later hu).cell 3 _ rfl;go_simp)
  try simp only [z]
  refine wpAnyH_ready (rs:= [6,10]) (by kernel_rfl) (by simp) ?_
  refine(AllReadyH.cons (o:=⟨some 110, .call { callee:=Callee.value (.func 65),args:=#[.tmp 107, .tmp 109],argTypes:=#[51,3]},109,_,#[⟨3, .data⟩,⟨5, .data⟩],none⟩) rfl (fun K hK=>?_) (AllReadyH.cons (o:=⟨some 6, .alloc 108,0,_,#[],none⟩) rfl (fun K hK=>?_) AllReadyH.nil))
  · skip
    go_simp
    refine(tget (H2.later hHeld) o.fd).mono ?_
    rintro e w6 ⟨rfl,b6⟩
    try go_wp2_with fail
    try (have p6:=p6.later b6)
    refine hK.out _ _ (Z00q hHeld b6 (Nat.le_refl _)) (fun hHeld=>?_)
    clear hK K
    try simp only [z]
    refine tl 7 (.tuple #[.agg (Z01 Z.t o.fd).cs.toArray, .int .i64 (Z04 Z.t o.fd)]) rfl ?_
    try simp only [z]
    refine tl 8 (.agg (Z01 Z.t o.fd).cs.toArray) rfl ?_
    try simp only [z]
    refine tl 9 (.int .i64 (Z04 Z.t o.fd)) rfl ?_
    try simp only [z]
    refine rd 10 rfl (fun K hK=>?_)
    have zH:=hHeld.size
    refine Z2p rfl (by rfl) ?_
    intro g6 w10 y6 y7 p6 b10
    have m6:w2.heap.size≤g6:=by omega
    refine hK.out _ _ (Z00q hHeld b10 (Nat.le_refl _)) (fun hHeld=>?_)
    clear hK K
    try simp only [z]
    refine rd 11 rfl (fun K hK=>?_)
    refine Z2q rfl _ _ (by rfl) g6 (by rfl) (Z01 Z.t o.fd) (by rfl) _ p6 rfl ?_
    intro w11 p11 s11
    refine hK.out _ _ (((Stp.of_below hHeld (fun _=>False)).next s11 (fun x e=> .inr (by omega))).below (Nat.le_refl _) (fun _ h=>h.elim)) (fun hHeld=>?_)
    clear hK K
    try simp only [Act.put]
    refine tl 12 (.int .i64 (Z04 Z.t o.fd)) rfl ?_
    try simp only [z]
    refine wpAnyH_done (by kernel_rfl) ?_ _
    go_wp2_with fail
    go_meet
    exact⟨g6,rfl,rfl,hHeld⟩
  · skip
    have zH:=hHeld.size
    refine Z2p rfl (by rfl) ?_
    intro g6 w10 y6 y7 p6 b10
    have m6:w2.heap.size≤g6:=by omega
    refine hK.out _ _ (Z00q hHeld b10 (Nat.le_refl _)) (fun hHeld=>?_)
    clear hK K
    try simp only [z]
    refine rd 6 rfl (fun K hK=>?_)
    go_simp
    refine(tget (H2.later hHeld) o.fd).mono ?_
    rintro e w6 ⟨rfl,b6⟩
    try go_wp2_with fail
    try (have p6:=p6.later b6)
    refine hK.out _ _ (Z00q hHeld b6 (Nat.le_refl _)) (fun hHeld=>?_)
    clear hK K
    try simp only [z]
    refine tl 7 (.tuple #[.agg (Z01 Z.t o.fd).cs.toArray, .int .i64 (Z04 Z.t o.fd)]) rfl ?_
    try simp only [z]
    refine tl 8 (.agg (Z01 Z.t o.fd).cs.toArray) rfl ?_
    try simp only [z]
    refine tl 9 (.int .i64 (Z04 Z.t o.fd)) rfl ?_
    try simp only [z]
    refine rd 11 rfl (fun K hK=>?_)
    refine Z2q rfl _ _ (by rfl) g6 (by rfl) (Z01 Z.t o.fd) (by rfl) _ p6 rfl ?_
    intro w11 p11 s11
    refine hK.out _ _ (((Stp.of_below hHeld (fun _=>False)).next s11 (fun x e=> .inr (by omega))).below (Nat.le_refl _) (fun _ h=>h.elim)) (fun hHeld=>?_)
    clear hK K
    try simp only [Act.put]
    refine tl 12 (.int .i64 (Z04 Z.t o.fd)) rfl ?_
    try simp only [z]
    refine wpAnyH_done (by kernel_rfl) ?_ _
    go_wp2_with fail
    go_meet
    exact⟨g6,rfl,rfl,hHeld⟩
 case rest=>
  obtain⟨g6,rfl,rfl,b3⟩:=hcut
  replace Bc:=Z00q Bc b3 (Nat.le_refl _)
  replace r2:=r2.later b3
  have eE:∀ w9,TxG U g q B Z w w9→Ret (.returned (.tuple #[.agg anZ.toArray, .int .i64 (Z04 Z.t o.fd)])) U g B Z Z (Z04 Z.t o.fd) w w9:=fun w9 G=>by
   rcases Z1q Z.t o.fd with e | e
   · rw [e];exact Z16 Z0c (G.more (Nat.le_succ B))
   · rw [e];exact Z0q (by decide) G
  go_wp2_with (refine Z03 (by rfl) _ _ (by rfl) g2 (by rfl) anZ 0 Z0c (by rfl) _ r2 rfl ?_;intro w9 r9 s9)
  exact bodyPost_ret (Z0d Z06 Tryz.results27 rfl rfl r9 rfl) rfl (eE _ (TxG.same h Bc (by omega) s9))
set_option maxRecDepth 100000
theorem Z87 {fn:Func} {p:Tmp} {tmps:Array Value} {w:World} {g T n:Nat} {z cs:List Value} (hT:Srt T n z) (h:fn.results=#[.cell p T]) (hp:tmps.getD p undef= .pointer (some ⟨g,0,none⟩)) (hR:Cs w g cs) (hl:cs.length=n):(results fn tmps).run Tryz.prog w= .ok (.agg cs.toArray) w:=by
 have hp':tmps[p]?.getD undef= .pointer (some ⟨g,0,none⟩):=by simpa using hp
 simp [results,h,hp',asAddr,Z44 hT hR hl]
theorem Zac {w:World} {U:Nat→Prop} {g B n:Nat} {q:Int→Nat} {Z:Tz} (h:Tx w U g q B Z) (hz:Z.ok n) (hn:n≤900) (hB:B≤900) (o:Oz) (ho:o.wfo) (s:Sv) (hs:BsS w s o.d) (he:InE (fun y=>¬U y) s):
 Calls Tryz.prog 55 #[.pointer (some ⟨g,0,none⟩), .agg (opC o s).toArray] w fun e w'=>Ret e U g B Z (Z.wrS o) (Z.wrE o) w w':=by
 by_cases hE:Z.wrE o=0
 · by_cases h4:o.d= []
   · exact Z63 h hz hn hB o ho s hs he hE h4
   · by_cases hx:(Z01 Z.t o.fd).p+o.d.length≤(Z.nd (Z01 Z.t o.fd).i).d.length
     · exact Zd3 h hz hn hB o ho s hs he hE h4 hx
     · exact Zd4 h hz hn hB o ho s hs he hE h4 hx
 · exact Zd5 h hz hn hB o ho s hs he hE
theorem Z82 {w:World} {U:Nat→Prop} {g B n:Nat} {q:Int→Nat} {Z:Tz} (h:Tx w U g q B Z) (hz:Z.ok n) (hn:n≤900) (hB:B≤900) (o:Oz) (ho:o.wfo) (s:Sv):
 Calls Tryz.prog 52 #[.pointer (some ⟨g,0,none⟩), .agg (opC o s).toArray] w fun e w'=>Ret e U g B Z (Z.opS o) (Z.opE o) w w':=by
 have hm:n+2≤1000:=by omega
 have hF:=fun w' (b:Below w.heap.size w w')=>Z8m o.fl ho.fl w'
 have hP:=fun w' (b:Below w.heap.size w w')=>Z1k (h.later b) hz hm o.p ho.p 43 (by decide)
 cases h1:flOk o.fl with
 | false=>
   rw [h1]at hF
   have e1:Z.opE o=2:=by unfold Tz.opE;rw [if_neg (by rw [h1];decide)]
   rw [e1];exact op0 h hF
 | true=>
   rw [h1]at hF
   have hf:=Z2b h1
   by_cases h2:Z.paE o.p 43=0
   · have e1:Z.opE o=Z.opF (Z.paI o.p) o.fl:=by unfold Tz.opE;rw [if_pos h1,if_pos h2]
     obtain⟨p1,p2,p3⟩:=Z1f hz (by decide) h2
     have hO:=fun w' (b:Below w.heap.size w w')=>Z8n (h.later b) hz hm (i:=Z.paI o.p) (f:=o.fl) ⟨hf.1,hf.2.1⟩ (p3.imp id (fun e=>e.2))
     rw [Zfn]at e1
     rw [Z1r h2,h2]at hP
     by_cases h3:Z.moE (Z.paI o.p) o.fl=0
     · rw [if_pos h3]at e1
       rw [h3]at hO
       by_cases h4:fdFr Z.t=8
       · rw [if_pos h4]at e1
         rw [e1]
         exact op3 h (decide_eq_true (by omega)) hF hP hO
       · rw [if_neg h4]at e1
         obtain⟨k1,k2⟩:=Z81 hz e1
         rw [e1]
         exact Zfo h hz hn hB p1 (Z3i p2).2.2 k1 k2 (fun e=>e) ⟨hf.1,hf.2.1⟩ (decide_eq_false (by omega)) hF hP hO
     · rw [if_neg h3]at e1
       rw [e1]
       exact op2 h h3 hF hP hO
   · have e1:Z.opE o=Z.paE o.p 43:=by unfold Tz.opE;rw [if_pos h1,if_neg h2]
     rw [Z1o h2]at hP
     rw [e1]
     exact op1 h h2 hF hP
theorem Z9q {w:World} {U:Nat→Prop} {g B n:Nat} {q:Int→Nat} {Z:Tz} (h:Tx w U g q B Z) (hz:Z.ok n) (hn:n≤900) (hB:B≤900) (o:Oz) (ho:o.wfo) (s:Sv) (hs:BsS w s o.d) (he:InE (fun y=>¬U y) s):
 Calls Tryz.prog 27 #[.pointer (some ⟨g,0,none⟩), .agg (opC o s).toArray] w fun e w'=>Ret e U g B Z (Z.doS o) (Z.doE o) w w':=by
 by_cases k1:o.k=1
 · have e1:Z.doE o=Z.opE o:=by unfold Tz.doE;rw [k1];rfl
   have e2:Z.doS o=Z.opS o:=by unfold Tz.doS;rw [k1];rfl
   rw [e1,e2]
   exact an1 h o s k1 (fun w' b=>(Z82 (h.later b) hz hn hB o ho s))
 by_cases k2:o.k=2
 · have e1:Z.doE o=Z04 Z.t o.fd:=by unfold Tz.doE;rw [k2];rfl
   have e2:Z.doS o=Z.clS o:=by unfold Tz.doS;rw [k2];rfl
   rw [e1,e2]
   exact an2 h o s k2 (fun w' b=>(Z2j (h.later b) hz hn hB o ho s))
 by_cases k3:o.k=3
 · have e1:Z.doE o=Z.reE o:=by unfold Tz.doE;rw [k3];rfl
   have e2:Z.doS o=Z.reS o:=by unfold Tz.doS;rw [k3];rfl
   rw [e1,e2]
   exact an3 h o s k3 (fun w' b=>(Zbr (h.later b) hz hn hB o ho s))
 by_cases k4:o.k=4
 · have e1:Z.doE o=Z.wrE o:=by unfold Tz.doE;rw [k4];rfl
   have e2:Z.doS o=Z.wrS o:=by unfold Tz.doS;rw [k4];rfl
   rw [e1,e2]
   exact an4 h o s k4 (fun w' b=>(Zac (h.later b) hz hn hB o ho s (hs.later b) he))
 by_cases k5:o.k=5
 · have e1:Z.doE o=Z.skE o:=by unfold Tz.doE;rw [k5];rfl
   have e2:Z.doS o=Z.skS o:=by unfold Tz.doS;rw [k5];rfl
   rw [e1,e2]
   exact an5 h o s k5 (fun w' b=>(Zbs (h.later b) hz hn hB o ho s))
 by_cases k6:o.k=6
 · have e1:Z.doE o=Z.cuE o:=by unfold Tz.doE;rw [k6];rfl
   have e2:Z.doS o=Z.cuS o:=by unfold Tz.doS;rw [k6];rfl
   rw [e1,e2]
   exact an6 h o s k6 (fun w' b=>(Zd2 (h.later b) hz hn hB o ho s))
 by_cases k7:o.k=7
 · have e1:Z.doE o=Z.mdE o:=by unfold Tz.doE;rw [k7];rfl
   have e2:Z.doS o=Z.mdS o:=by unfold Tz.doS;rw [k7];rfl
   rw [e1,e2]
   exact an7 h o s k7 (fun w' b=>(Z8l (h.later b) hz hn hB o ho s))
 by_cases k8:o.k=8
 · have e1:Z.doE o=Z.rmE o:=by unfold Tz.doE;rw [k8];rfl
   have e2:Z.doS o=Z.unS o:=by unfold Tz.doS;rw [k8];rfl
   rw [e1,e2]
   exact an8 h o s k8 (fun w' b=>(Z76 (h.later b) hz hn hB o ho s))
 by_cases k9:o.k=9
 · have e1:Z.doE o=Z.liE o:=by unfold Tz.doE;rw [k9];rfl
   have e2:Z.doS o=Z.liS o:=by unfold Tz.doS;rw [k9];rfl
   rw [e1,e2]
   exact an9 h o s k9 (fun w' b=>(Z2y (h.later b) hz hn hB o ho s))
 by_cases k10:o.k=10
 · have e1:Z.doE o=Z.ulE o:=by unfold Tz.doE;rw [k10];rfl
   have e2:Z.doS o=Z.unS o:=by unfold Tz.doS;rw [k10];rfl
   rw [e1,e2]
   exact an10 h o s k10 (fun w' b=>(Z56 (h.later b) hz hn hB o ho s))
 by_cases k11:o.k=11
 · have e1:Z.doE o=Z.rnE o:=by unfold Tz.doE;rw [k11];rfl
   have e2:Z.doS o=Z.rnS o:=by unfold Tz.doS;rw [k11];rfl
   rw [e1,e2]
   exact an11 h o s k11 (fun w' b=>(Z4y (h.later b) hz hn hB o ho s))
 by_cases k12:o.k=12
 · have e1:Z.doE o=(Z.wa o.p).2:=by unfold Tz.doE;rw [k12];rfl
   have e2:Z.doS o=Z:=by unfold Tz.doS;rw [k12];rfl
   rw [e1,e2]
   exact an12 h o s k12 (fun w' b=>(Z62 (h.later b) hz hn hB o ho s))
 by_cases k13:o.k=13
 · have e1:Z.doE o=Z.lsE' o:=by unfold Tz.doE;rw [k13];rfl
   have e2:Z.doS o=Z:=by unfold Tz.doS;rw [k13];rfl
   rw [e1,e2]
   exact an13 h o s k13 (fun w' b=>(Z5x (h.later b) hz hn hB o ho s))
 by_cases k14:o.k=14
 · have e1:Z.doE o=Z04 Z.t o.fd:=by unfold Tz.doE;rw [k14];rfl
   have e2:Z.doS o=Z:=by unfold Tz.doS;rw [k14];rfl
   rw [e1,e2];exact an14 (Z':=Z) h o s k14
 by_cases k15:o.k=15
 · have e1:Z.doE o=0:=by unfold Tz.doE;rw [k15];rfl
   have e2:Z.doS o=Z:=by unfold Tz.doS;rw [k15];rfl
   rw [e1,e2];exact an15 (Z':=Z) h o s k15
 have e1:Z.doE o=2:=by unfold Tz.doE;simp only [k1,k2,k3,k4,k5,k6,k7,k8,k9,k10,k11,k12,k13,k14,k15,if_false]
 rw [e1]
 exact an0 h o s (by simpa using k1) (by simpa using k2) (by simpa using k3) (by simpa using k4) (by simpa using k5) (by simpa using k6) (by simpa using k7) (by simpa using k8) (by simpa using k9) (by simpa using k10) (by simpa using k11) (by simpa using k12) (by simpa using k13) (by simpa using k14) (by simpa using k15)
def RetD (e:Ending) (U:Nat→Prop) (g B:Nat) (Z':Tz) (E:Int) (w w':World):Prop:=∃ A q,e= .returned (.agg A.toArray)∧AnE E A∧TxG U g q (B+1) Z' w w'
theorem Zan {w w1 w3 w4 w5 w9:World} {U:Nat→Prop} {g B ga gb:Nat} {q:Int→Nat} {Z:Tz} (hU:∀ x,U x→x < w.heap.size) (hb:Below w.heap.size w w1) (G:TxG U g q B Z w1 w3) (b4:Below w3.heap.size w3 w4) (zb:w3.heap.size≤gb) (s5:Stp (fun x=>x=gb) w4 w5) (za:w.heap.size≤ga) (zc:ga < w1.heap.size) (s9:Stp (fun x=>x=ga) w5 w9):TxG U g q B Z w w9:=by
 obtain⟨U',t,s,e⟩:=G
 have z1:=hb.size
 have z2:=s.size
 have z4:=b4.size
 have z5:=s5.size
 have lo:=t.low
 have n1:∀ x,U' x→¬x=gb:=fun x hx c=>by have:=lo x hx;omega
 have n2:∀ x,U' x→¬x=ga:=fun x hx c=>by
  rcases e x hx with d | d
  · have:=hU x d;omega
  · omega
 refine⟨U',((t.later b4).step s5 n1).step s9 n2,?_,fun x hx=>?_⟩
 · refine(((Stp.of_below hb U).next s (fun y c=> .inl c)).next (Stp.of_below b4 (fun _=>False)) (fun y c=>c.elim)).next s5 (fun y c=> .inr (by omega)) |>.next s9 (fun y c=> .inr (by omega))
 · rcases e x hx with d | d
   · exact .inl d
   · have:=s9.size;exact .inr (by omega)
set_option maxHeartbeats 8000000 in
theorem do_a {w:World} {U:Nat→Prop} {g B:Nat} {q:Int→Nat} {Z Z':Tz} {E:Int} (hE:E=0) (h:Tx w U g q B Z) (o:Oz) (s:Sv)
 (hR:∀ w',Below w.heap.size w w'→Calls Tryz.prog 27 #[.pointer (some ⟨g,0,none⟩), .agg (opC o s).toArray] w' fun e u=>Ret e U g B Z Z' E w' u):
 Calls Tryz.prog 8 #[.pointer (some ⟨g,0,none⟩), .agg (opC o s).toArray] w fun e w'=>RetD e U g B Z' 0 w w':=by
 have hU:=h.low
 subst hE
 have hE:(if (0:Int)=0 then Z' else Z)=Z':=if_pos rfl
 have tk1:True:=trivial
 go_enter Tryz.func8,Tryz.ntmps8
 go_wp2_with (first
  | (refine Z05 (by rfl) _ (by rfl) o s (by rfl) ?_;intro g1 w1 z1 z2 r1 b1
     have Bc:=b1
     have v1:=b1.size)
  | (refine Z02 (by rfl) (by rfl) ?_;clear tk1;intro g2 w2 z3 z4 r2 b2
     replace Bc:=Z00q Bc b2 (Nat.le_refl _)
     have v2:=b2.size
     replace r1:=r1.later b2)
  | (refine Z0k 37 8 _ Z0r (by rfl) _ (by rfl) g1 (by rfl) _ r1 rfl ?_)
  | (go_at_call 27;refine(hR _ Bc).mono ?_;rintro e w3 ⟨A,q',rfl,hA,G⟩
     rw [hE]at G
     have v3:=G.stp.size
     have l2:=r2.lt
     replace r2:=r2.step G.stp (fun e=>by have:=hU g2 e;omega))
  | (refine Z02 (by rfl) (by rfl) ?_;intro g3 w4 z5 z6 r4 b4
     replace r2:=r2.later b4
     have v4:=b4.size)
  | (refine Z03 (by rfl) _ _ (by rfl) g3 (by rfl) A 0 hA (by rfl) _ r4 rfl ?_;intro w5 r5 s5
     replace r2:=r2.step s5 (fun e=>by omega)
     have v5:=s5.size)
  | (refine Z0k 34 7 _ Z06 (by rfl) _ (by rfl) g3 (by rfl) A r5 hA.len ?_)
  | (refine Z03 (by rfl) _ _ (by rfl) g2 (by rfl) A 0 hA (by rfl) _ r2 rfl ?_;intro w9 r9 s9))
 exact bodyPost_ret (Z87 Z06 Tryz.results8 rfl r9 hA.len) rfl ⟨A,q',rfl,hA,Zan hU Bc G b4 z5 s5 (by omega) (by omega) s9⟩
set_option maxHeartbeats 8000000 in
theorem do_b {w:World} {U:Nat→Prop} {g B:Nat} {q:Int→Nat} {Z Z':Tz} {E:Int} (hne:¬E=0) (h:Tx w U g q B Z) (o:Oz) (s:Sv)
 (hR:∀ w',Below w.heap.size w w'→Calls Tryz.prog 27 #[.pointer (some ⟨g,0,none⟩), .agg (opC o s).toArray] w' fun e u=>Ret e U g B Z Z' E w' u):
 Calls Tryz.prog 8 #[.pointer (some ⟨g,0,none⟩), .agg (opC o s).toArray] w fun e w'=>RetD e U g B Z E w w':=by
 have hU:=h.low
 have hE:(if E=0 then Z' else Z)=Z:=if_neg hne
 have qE:(E != 0)=true:=by simpa using hne
 clear hne
 have tk1:True:=trivial
 go_enter Tryz.func8,Tryz.ntmps8
 go_wp2_with (first
  | (refine Z05 (by rfl) _ (by rfl) o s (by rfl) ?_;intro g1 w1 z1 z2 r1 b1
     have Bc:=b1
     have v1:=b1.size)
  | (refine Z02 (by rfl) (by rfl) ?_;clear tk1;intro g2 w2 z3 z4 r2 b2
     replace Bc:=Z00q Bc b2 (Nat.le_refl _)
     have v2:=b2.size
     replace r1:=r1.later b2)
  | (refine Z0k 37 8 _ Z0r (by rfl) _ (by rfl) g1 (by rfl) _ r1 rfl ?_)
  | (go_at_call 27;refine(hR _ Bc).mono ?_;rintro e w3 ⟨A,q',rfl,hA,G⟩
     rw [hE]at G
     have v3:=G.stp.size
     have l2:=r2.lt
     replace r2:=r2.step G.stp (fun e=>by have:=hU g2 e;omega))
  | (refine Z02 (by rfl) (by rfl) ?_;intro g3 w4 z5 z6 r4 b4
     replace r2:=r2.later b4
     have v4:=b4.size)
  | (refine Z03 (by rfl) _ _ (by rfl) g3 (by rfl) A 0 hA (by rfl) _ r4 rfl ?_;intro w5 r5 s5
     replace r2:=r2.step s5 (fun e=>by omega)
     have v5:=s5.size)
  | (refine Z0k 34 7 _ Z06 (by rfl) _ (by rfl) g3 (by rfl) A r5 hA.len ?_)
  | (refine Z03 (by rfl) _ _ (by rfl) g2 (by rfl) (anC E 0 nilV nilV 0 0 0) E (Z07 E) (by rfl) _ r2 rfl ?_;intro w9 r9 s9))
 exact bodyPost_ret (Z87 Z06 Tryz.results8 rfl r9 rfl) rfl ⟨anC E 0 nilV nilV 0 0 0,q',rfl,Z07 E,Zan hU Bc G b4 z5 s5 (by omega) (by omega) s9⟩
set_option maxHeartbeats 8000000 in
theorem Zey (w:World) (o:Oz) (s:Sv):Calls Tryz.prog 8 #[.pointer none, .agg (opC o s).toArray] w fun e w'=>∃ A,e= .returned (.agg A.toArray)∧AnE 1 A∧Below w.heap.size w w':=by
 have tk1:True:=trivial
 go_enter Tryz.func8,Tryz.ntmps8
 go_wp2_with (first
  | (refine Z05 (by rfl) _ (by rfl) o s (by rfl) ?_;intro g1 w1 z1 z2 r1 b1
     have Bc:=b1
     have v1:=b1.size)
  | (refine Z02 (by rfl) (by rfl) ?_;clear tk1;intro g2 w2 z3 z4 r2 b2
     replace Bc:=Z00q Bc b2 (Nat.le_refl _)
     have v2:=b2.size
     replace r1:=r1.later b2)
  | (refine Z03 (by rfl) _ _ (by rfl) g2 (by rfl) (anC 1 0 nilV nilV 0 0 0) 1 (Z07 1) (by rfl) _ r2 rfl ?_;intro w9 r9 s9))
 exact bodyPost_ret (Z87 Z06 Tryz.results8 rfl r9 rfl) rfl ⟨_,rfl,Z07 1,((Stp.of_below Bc (fun _=>False)).next s9 (fun y e=> .inr (by omega))).below (Nat.le_refl _) (fun y e=>e.elim)⟩
theorem Z1h {w:World} {U:Nat→Prop} {g B n:Nat} {q:Int→Nat} {Z:Tz} (h:Tx w U g q B Z) (hz:Z.ok n) (hn:n≤900) (hB:B≤900) (o:Oz) (ho:o.wfo) (s:Sv) (hs:BsS w s o.d) (he:InE (fun y=>¬U y) s):
 Calls Tryz.prog 8 #[.pointer (some ⟨g,0,none⟩), .agg (opC o s).toArray] w fun e w'=>RetD e U g B (Z.do1 o) (Z.doE o) w w':=by
 have hR:=fun w' (b:Below w.heap.size w w')=>Z9q (h.later b) hz hn hB o ho s (hs.later b) he
 unfold Tz.do1
 by_cases hE:Z.doE o=0
 · rw [if_pos hE]
   have:=do_a hE h o s hR
   rw [hE];exact this
 · rw [if_neg hE];exact do_b hE h o s hR
set_option maxRecDepth 100000
theorem Zdr {w:World} {tg:Nat→Nat} {g mb ob B:Nat} {q nb:Int→Nat} {sv:Int→Sv} {Z:Tz} (H:Tw w tg g mb ob q nb sv B Z) (h2:1≤Z.N.length) (hf:Z.N.length≤1000) (h0:∀ i,(Z.nd i).k≠0→1≤i∧i.toNat < Z.N.length):
 Calls Tryz.prog 25 #[.pointer (some ⟨g,0,none⟩), .int .i64 2] w fun e w'=>∃ b tg' nb' sv',e= .returned (.int .i64 Z.top)∧Tw w' tg' g mb ob (qUp q Z.top b) nb' sv' B (Z.come 2)∧Stp (fun x=>x=g∨x=mb) w w'∧∀ x,tg' x≠0→tg x≠0∨w.heap.size≤x:=by
 have c1:=H.c1
 have c0:=H.c0
 have f1:=H.tr.frozen 1
 have hgt:=H.tt
 have hmt:=H.mt
 have hgl:=H.tr.lt
 have hml:=H.mp.lt
 have hwt:wrap64 Z.top=Z.top:=by unfold wrap64 Tz.top;omega
 have hwf:wfi Z.top:=Z22 (by unfold Tz.top;omega)
 have hkeys:∀ j,(nF q Z j).isSome→0≤j∧j < 2048:=fun j hj=>by
  unfold nF at hj
  split at hj
  · cases hj
  · rename_i e;have:=h0 j e;omega
 have gm:g≠mb:=fun e=>by rw [e]at hgt;omega
 have et:(Z.come 2).top - 1=Z.top:=by unfold Tz.come Tz.top;simp
 have k1:Stp (fun x=>x=g) w (w.setCell ⟨g,1,none⟩ (.int .i64 Z.top)):=(Stp.refl (fun x=>x=g) w).setCell (p:=⟨g,1,none⟩) (.inl rfl) _
 have T1:Cs (w.setCell ⟨g,1,none⟩ (.int .i64 Z.top)) g (trC mb ob (Z.come 2)):=by
  have:=H.tr.set 1 (.int .i64 Z.top) rfl
  unfold trC at this ⊢
  rw [et];exact this
 have M1:=H.mp.step k1 (fun e=>gm e.symm)
 have c0':=T1.cell 0 _ (show(trC mb ob (Z.come 2))[0]? =some (.map (some mb))from rfl)
 have c1':=T1.cell 1 _ (show(trC mb ob (Z.come 2))[1]? =some (.int .i64 ((Z.come 2).top - 1))from rfl)
 rw [et]at c1'
 have hsz:=k1.size
 have tk:Hid True:=trivial
 go_enter Tryz.func25,Tryz.ntmps25
 go_wp2_with (first
  | (refine Z2m 73 (by rfl) _ (by rfl) (ndC ⟨2,0, [], []⟩ Sv.nil 0 |>.set 3 (.map none)) (by rfl) (by simp [ndC,Value.oneCell']) ?_;intro b w1 z1 z2 r1 b1
     have T2:=T1.later b1
     have M2:=M1.later b1)
  | (clear tk;refine Zaf (by rfl) (by rfl) ?_;intro bm w2 z3 z4 p2 b2
     have T2':=T2.later b2
     have M2':=M2.later b2
     have r2:=r1.later b2
     have f3:=r2.frozen 3
     have c3:=r2.cell 3 _ rfl))
 have nbm:b≠bm:=by omega
 have k5:Stp (fun x=>x=b) w2 (w2.setCell ⟨b,3,none⟩ (.map (some bm))):=(Stp.refl (fun x=>x=b) w2).setCell (p:=⟨b,3,none⟩) (.inl rfl) _
 have r5:=r2.set 3 (.map (some bm)) rfl
 have T5:=T2'.step k5 (fun e=>by omega)
 have M5:=M2'.step k5 (fun e=>by omega)
 have p5:=p2.step k5 (fun e=>nbm e.symm)
 have zz5:=k5.size
 generalize w2.setCell ⟨b,3,none⟩ (.map (some bm))=w5 at *
 refine Z0p (S:=fun u=>Below w5.heap.size w5 u) _ _ (by simp only [List.pop_toArray,List.dropLast_cons_cons,List.dropLast_singleton];rfl) (by simp only [List.back?_toArray,List.getLast?_cons_cons,List.getLast?_singleton];rfl) (by kernel_rfl) (by kernel_rfl) (Below.refl _ _).drew (fun hHeld=>?_)
 refine tl 0 (.pointer (some ⟨g,0,none⟩)) rfl ?_
 try simp only [z]
 refine tl 1 (.pointer (some ⟨g,0,none⟩)) rfl ?_
 try simp only [z]
 refine tl 2 (.pointer (some ⟨g,0,none⟩)) rfl ?_
 try simp only [z]
 refine tl 3 (.map (some mb)) rfl ?_ (fun u hu=>by have x1:=(T5.later hu).cell 0 _ rfl;go_simp)
 try simp only [z]
 refine tl 4 (.pointer (some ⟨g,0,none⟩)) rfl ?_
 try simp only [z]
 refine tl 5 (.pointer (some ⟨g,0,none⟩)) rfl ?_
 try simp only [z]
 refine tl 6 (.pointer (some ⟨g,1,none⟩)) rfl ?_
 try simp only [z]
 refine tl 7 (.int .i64 Z.top) rfl ?_ (fun u hu=>by have x1:=(T5.later hu).cell 1 _ rfl;rw [et]at x1;go_simp)
 try simp only [z]
 refine tl 8 (.pointer (some ⟨b,0,none⟩)) rfl ?_
 try simp only [z]
 refine wpAnyH_done (by kernel_rfl) ?_ _
 have T3:=T5.later hHeld
 have M3:=M5.later hHeld
 have r3:=r5.later hHeld
 have p3:=p5.later hHeld
 have zz:=hHeld.size
 generalize w5.drew=w3 at *
 show wpList _ _ _ [_] _ _
 refine Z5h (by rfl) _ _ _ (by rfl) mb (nF q Z) (by rfl) Z.top (by rfl) (.pointer (some ⟨b,0,none⟩)) (by rfl) M3 hkeys hwf ?_
 intro w4 m4 s4
 have bmb:b≠mb:=by omega
 have bmm:bm≠mb:=by omega
 have T4:=T3.step s4 gm
 have r4:=r3.step s4 bmb
 have p4:=p3.step s4 bmm
 have d1:=T4.cell 1 _ rfl
 rw [et]at d1
 go_wp2_with fail
 go_returns
 have S4:Stp (fun x=>x=g∨x=mb) w w4:=(((((k1.mono (fun x e=> .inl (.inl e))).trans (Stp.of_below b1 _)).trans (Stp.of_below b2 _)).next k5 (fun x e=> .inr (by omega))).trans (Stp.of_below hHeld _)).next s4 (fun x e=> .inl (.inr e))
 have m4':MpI Tryz.prog 3 w4 mb (upd (nF q Z) Z.top (some (.pointer (some ⟨b,0,none⟩)))):=m4
 have F:=H.come h0 h2 (k:=2) (.inr rfl) (b:=b) (bm:=bm) S4 (by omega) (by omega) nbm T4 m4' r4 (fun _=>p4)
 refine⟨b,_,_,_,rfl,F,S4,fun y hy=>?_⟩
 by_cases e:y=b
 · exact .inr (by omega)
 · rw [if_neg e]at hy
   by_cases e2:y=bm
   · exact .inr (by omega)
   · rw [if_neg (fun c=>e2 c.2)]at hy;exact .inl hy
section
variable {o : Oper} {a : Act} {w : World} {K : Act → World → Prop} {ops : Array Oper} {Q : Exit → Act → World → Prop} {R : Prop}
theorem Zab {T:TypeId} {mv kv v:Value} (hgd:o.guard=none) (m k:Operand) (ho:o.op= .lookup T m k false) (hm:a.eval m=mv) (hk:a.eval k=kv) (hr:(Instr.lookup T mv kv false).run Tryz.prog w= .ok v w) (h:K (a.put o.dst v) w):if Region.wanted o (yielded ops a.tmps)=true then Oper.wp Tryz.prog o a w K Q else R:=by
 have hw:Region.wanted o (yielded ops a.tmps)=true:=by simp [Region.wanted,hgd]
 rw [if_pos hw]
 have hr2:(execOp a.eval o).run Tryz.prog w= .ok (.value v) w:=by simp [execOp,ho,hm,hk,hr]
 unfold Oper.wp
 rw [hr2]
 exact h
end
def Z00:Tz:=⟨[Nd.zero],Z2s⟩
theorem Zdd (i:Int):Z00.nd i=Nd.zero:=by
 unfold Z00 Tz.nd
 show([Nd.zero]:List Nd).getD i.toNat Nd.zero=Nd.zero
 match i.toNat with
 | 0=>rfl
 | k+1=>rfl
set_option maxHeartbeats 4000000 in
theorem Z8g (w:World):
 Calls Tryz.prog 6 #[] w fun e w'=>∃ g U q,e= .returned (.pointer (some ⟨g,0,none⟩))∧Below w.heap.size w w'∧Tx w' U g q 0 Tz.new∧∀ x,U x→w.heap.size≤x:=by
 have wf1:wfi 1:=Z22 (by omega)
 classical
 go_enter Tryz.func6,Tryz.ntmps6
 go_wp2_with (first
  | (refine Zc2 68 (by rfl) (by rfl) ?_;intro mb w1 hm M1 b1)
  | (go_at_call 24;refine(Z4r _).mono ?_;rintro e w2 ⟨ob,Uo,rfl,zo,b2,F2,hUo⟩
     have M2:=M1.later b2
     have B2:=Z00q b1 b2 (Nat.le_refl _))
  | (refine Z2m 70 (by rfl) _ (by rfl) (trC mb ob Z00) (by rfl) (by simp [trC,Value.oneCell']) ?_;intro g w3 z3 z4 r3 b3
     have M3:=M2.later b3
     have B3:=Z00q B2 b3 (Nat.le_refl _)))
 have lm:=M1.lt
 have v2:=b2.size
 have v3:=b3.size
 have lF:=F2.low
 have F3:Fd w3 Uo ob Z2s:=F2.step (Stp.of_below b3 (fun _=>False)) (fun _ _=>id)
 have hnF:nF (fun _=>0) Z00=fun _=>none:=by
  funext i
  unfold nF
  rw [Zdd,if_pos (show Nd.zero.k=0 from rfl)]
 have hno:∀ i,(Z00.nd i).k≠0→False:=fun i e=>e (by rw [Zdd];rfl)
 have T3:Tw w3 (fun x=>if x=g then 1 else if x=mb then 2 else if Uo x then 3 else 0) g mb ob (fun _=>0) (fun _=>0) (fun _=>Sv.nil) 0 Z00:=by
  refine⟨fun x hx=>?_,fun i e=>(hno i e).elim,r3,if_pos rfl,by rw [hnF];exact M3,?_,⟨Uo,F3,fun x hx=>?_⟩,fun i e=>(hno i e).elim,fun i e=>(hno i e).elim,fun i e=>(hno i (by rw [e];decide)).elim⟩
  · by_cases e1:x=g
    · omega
    · rw [if_neg e1]at hx
      by_cases e2:x=mb
      · omega
      · rw [if_neg e2]at hx
        by_cases e3:Uo x
        · have:=lF x e3;omega
        · rw [if_neg e3]at hx;exact absurd rfl hx
  · rw [if_neg (by omega),if_pos rfl]
  · have h1:=hUo x hx
    have h2:=lF x hx
    rw [if_neg (by omega),if_neg (by omega),if_pos hx]
 have T3n:∀ x,(if x=g then 1 else if x=mb then 2 else if Uo x then 3 else 0)≠0→w.heap.size≤x:=fun x hx=>by
  by_cases e1:x=g
  · omega
  · rw [if_neg e1]at hx
    by_cases e2:x=mb
    · omega
    · rw [if_neg e2]at hx
      by_cases e3:Uo x
      · have:=hUo x e3;omega
      · rw [if_neg e3]at hx;exact absurd rfl hx
 have c0:=T3.c0
 refine Z0p (S:=fun u=>Stp (fun x=>x=g∨x=mb) w3 u∧u.cell? ⟨g,0,none⟩=some (.map (some mb))) _ _ (by simp only [List.pop_toArray,List.dropLast_cons_cons,List.dropLast_singleton];rfl) (by simp only [List.back?_toArray,List.getLast?_cons_cons,List.getLast?_singleton];rfl) (by kernel_rfl) (by kernel_rfl) ⟨(Stp.refl _ _).drew,c0⟩ (fun hHeld=>?_)
 refine tl 0 (.pointer (some ⟨g,0,none⟩)) rfl ?_
 try simp only [z]
 refine tl 1 (.pointer (some ⟨g,0,none⟩)) rfl ?_
 try simp only [z]
 refine tl 2 (.pointer (some ⟨g,0,none⟩)) rfl ?_
 try simp only [z]
 refine tl 3 (.map (some mb)) rfl ?_ (fun u hu=>by have x1:=hu.2;go_simp)
 try simp only [z]
 refine tl 4 (.pointer (some ⟨g,0,none⟩)) rfl ?_
 try simp only [z]
 refine rd 5 rfl (fun K hK=>?_)
 go_simp
 refine(Zdr (T3.later (show Below w3.heap.size w3 w3.drew from(Below.refl _ _).drew)) (by decide) (by decide) (fun i e=>(hno i e).elim)).mono ?_
 rintro e w6 ⟨b,tg6,nb6,sv6,rfl,H6,s6,n6⟩
 try go_wp2_with fail
 refine hK.out _ _ (⟨((Stp.refl _ _).drew).trans s6,H6.c0⟩) (fun hHeld=>?_)
 clear hK K
 try simp only [z]
 refine rd 6 rfl (fun K hK=>?_)
 have eL:(Instr.lookup 68 (.map (some mb)) (.int .i64 Z00.top) false).run Tryz.prog w6= .ok (.pointer (some ⟨b,0,none⟩)) w6:=H6.look (i:=1) (show(2:Int)≠0 by decide) wf1
 refine Zab rfl _ _ (by rfl) (by rfl) (by rfl) eL ?_
 refine hK.out _ _ (hHeld) (fun hHeld=>?_)
 clear hK K
 try simp only [z]
 refine tl 7 (.pointer (some ⟨b,0,none⟩)) rfl ?_
 try simp only [z]
 refine tl 8 (.pointer (some ⟨b,1,none⟩)) rfl ?_
 try simp only [z]
 refine wpAnyH_done (by kernel_rfl) ?_ _
 have h2:((Z00.come 2).nd 1).k≠0:=show(2:Int)≠0 by decide
 have eb:qUp (fun _=>0) Z00.top b 1=b:=rfl
 have fz:=(H6.nd 1 h2).2.frozen 1
 have ce:=H6.n1 h2
 have H7:=H6.links h2 (by decide) 1
 have k7:Stp (fun x=>x=b) w6 (w6.setCell ⟨b,1,none⟩ (.int .i64 1)):=(Stp.refl (fun x=>x=b) w6).setCell (p:=⟨b,1,none⟩) (.inl rfl) _
 have n7:tg6 b≠0:=by have:=(H6.nd 1 h2).1;rw [eb]at this;omega
 rw [eb]at fz ce H7
 have H8:Tw (w6.setCell ⟨b,1,none⟩ (.int .i64 1)) tg6 g mb ob (qUp (fun _=>0) Z00.top b) nb6 sv6 0 Tz.new:=H7
 have hn:∀ x,tg6 x≠0→w.heap.size≤x:=fun x hx=>by
  rcases n6 x hx with e | e
  · exact T3n x e
  · have:w3.drew.heap.size=w3.heap.size:=rfl
    have:=B3.size
    omega
 have hb:=hn b n7
 have Bf:Below w.heap.size w (w6.setCell ⟨b,1,none⟩ (.int .i64 1)):=(((Stp.of_below B3 (fun x=>w.heap.size≤x)).next hHeld.1 (fun x e=> .inl (by rcases e with e | e<;>subst e<;>omega))).next k7 (fun x e=> .inl (by subst e;exact hb))).below (Nat.le_refl _) (fun x e=>e)
 show wpList _ _ _ [_] _ _
 go_wp2_with fail
 go_returns
 exact⟨g,_,_,rfl,Bf,⟨tg6,mb,ob,nb6,sv6,H8,fun x=>Iff.rfl⟩,fun x hx=>hn x hx⟩
end Go.Proofs.YtdnjddpfcgginaaGreat
