/-
  Texts of my own, joined: no statement is proved here.
-/
import Derived.Test.YtdnjddpfcgginaaGreatKay
import Derived.Test.YtdnjddpfcgginaaGreatKbi
import Derived.Test.YtdnjddpfcgginaaGreatKbj
set_option linter.unusedSimpArgs false
set_option linter.unusedVariables false
namespace Go.Proofs.YtdnjddpfcgginaaGreat
open Go.ChangeShapes Go.WideShapes Go.ChangeAt Go.RowKit
set_option maxRecDepth 100000
set_option maxHeartbeats 8000000 in
theorem Zgj {w:World} {U:Nat→Prop} {y n:Nat} {Z:Tz} (h:Dx w U y Z) (hz:Z.ok n) (hn:n≤900) (o:Oz) {sa:Option Addr} {sl sc:Nat} (hk:o.k=4) (hE:Z04 Z.t o.fd=0) {M:Int} {P:Nat} (hM:Hid ((Z01 Z.t o.fd).m=M)) (hP:Hid ((Z01 Z.t o.fd).p=(P:Int))) (hPb:P≤48640) (hsb:sl≤4096) (hx:¬M < 2) (hq:48640 < P+sl):
 Calls Tryz.prog 30 #[.pointer (some ⟨y,0,none⟩), .agg (opC o ⟨sa,sl,sc⟩).toArray] w fun e w'=>RetY e U y Z 31 w w':=by
 have hU:=h.low
 obtain⟨fb,r,c,A,F,sd,sn,H,hUU⟩:=h
 go_enter Tryz.func30,Tryz.ntmps30
 go_upto_region 1 with(first
  | (refine Z05 (by rfl) _ (by rfl) o ⟨sa,sl,sc⟩ (by rfl) ?_;intro g1 w1 z1 z2 r1 b1
     have Bc:=b1
     have v1:=b1.size
     try clear c10
     try clear c13
     try clear c17
     have c10:=r1.cell 0 _ rfl
     have c13:=r1.cell 3 _ rfl
     have c17:_=some (Value.slice sa sl sc):=r1.cell 7 _ rfl
     try rw [hk]at c10)
  | (refine Z02 (by rfl) (by rfl) ?_;intro g2 w2 z3 z4 r2 b2
     replace Bc:=Z00q Bc b2 (Nat.le_refl _)
     have v2:=b2.size
     try (replace r1:=r1.later b2)
     try (replace r2:=r2.later b2)
     try clear c10
     try clear c13
     try clear c17
     have c10:=r1.cell 0 _ rfl
     have c13:=r1.cell 3 _ rfl
     have c17:_=some (Value.slice sa sl sc):=r1.cell 7 _ rfl
     try rw [hk]at c10))
 simp only [Act.put,List.setIfInBounds_toArray,List.set_cons_zero,List.set_cons_succ]
 go_cut [5,6] (fun u v wx=>∃ g6,u= .pointer (some ⟨g6,0,none⟩)∧v= .int .i64 (Z04 Z.t o.fd)∧Cs wx g6 (Z01 Z.t o.fd).cs∧w2.heap.size≤g6∧Below w2.heap.size w2 wx)
 case first=>
  have H2:=H.later Bc
  refine wp_region_held_drew (S:=fun u=>Below w2.heap.size w2 u) (by kernel_rfl) (Below.refl _ _).drew (fun hHeld=>?_)
  refine tl 0 (.pointer (some ⟨y,0,none⟩)) rfl ?_
  try simp only [z]
  refine tl 1 (.pointer (some ⟨y,0,none⟩)) rfl ?_
  try simp only [z]
  refine tl 2 (.pointer (some ⟨y,1,none⟩)) rfl ?_
  try simp only [z]
  refine tl 3 (.pointer (some ⟨fb,0,none⟩)) rfl ?_ (fun u hu=>by have x1:=(H2.later hu).c1;go_simp)
  try simp only [z]
  refine tl 4 (.pointer (some ⟨g1,3,none⟩)) rfl ?_
  try simp only [z]
  refine tl 5 (.int .i64 o.fd) rfl ?_ (fun u hu=>by have x1:=(r1.later hu).cell 3 _ rfl;go_simp)
  try simp only [z]
  refine wpAnyH_ready (rs:= [6,10]) (by kernel_rfl) (by simp) ?_
  refine(AllReadyH.cons (o:=⟨some 20, .call { callee:=Callee.value (.func 70),args:=#[.tmp 17, .tmp 19],argTypes:=#[40,3]},116,_,#[⟨3, .data⟩,⟨5, .data⟩],none⟩) rfl (fun K hK=>?_) (AllReadyH.cons (o:=⟨some 5, .alloc 97,0,_,#[],none⟩) rfl (fun K hK=>?_) AllReadyH.nil))
  · skip
    go_simp
    refine(Z0l (H2.later hHeld).fd o.fd).mono ?_
    rintro e w6 ⟨rfl,b6⟩
    try go_wp2_with fail
    try (have p6:=p6.later b6)
    refine hK.out _ _ (Z00q hHeld b6 (Nat.le_refl _)) (fun hHeld=>?_)
    clear hK K
    try simp only [z]
    refine tl 7 (.tuple #[.agg (Z01 Z.t o.fd).cs.toArray, .int .i64 (Z04 Z.t o.fd)]) rfl ?_
    try simp only [z]
    refine tl 8 (.agg (Z01 Z.t o.fd).cs.toArray) rfl ?_
    try simp only [z]
    refine tl 9 (.int .i64 (Z04 Z.t o.fd)) rfl ?_
    try simp only [z]
    refine rd 10 rfl (fun K hK=>?_)
    have zH:=hHeld.size
    refine Z0i rfl (by rfl) ?_
    intro g6 w10 y6 y7 p6 b10
    have m6:w2.heap.size≤g6:=by omega
    refine hK.out _ _ (Z00q hHeld b10 (Nat.le_refl _)) (fun hHeld=>?_)
    clear hK K
    try simp only [z]
    refine rd 11 rfl (fun K hK=>?_)
    refine Z0j rfl _ _ (by rfl) g6 (by rfl) (Z01 Z.t o.fd) (by rfl) _ p6 rfl ?_
    intro w11 p11 s11
    refine hK.out _ _ (((Stp.of_below hHeld (fun _=>False)).next s11 (fun x e=> .inr (by omega))).below (Nat.le_refl _) (fun _ h=>h.elim)) (fun hHeld=>?_)
    clear hK K
    try simp only [Act.put]
    refine tl 12 (.int .i64 (Z04 Z.t o.fd)) rfl ?_
    try simp only [z]
    refine wpAnyH_done (by kernel_rfl) ?_ _
    go_wp2_with fail
    go_meet
    exact⟨g6,rfl,rfl,p11,m6,hHeld⟩
  · skip
    have zH:=hHeld.size
    refine Z0i rfl (by rfl) ?_
    intro g6 w10 y6 y7 p6 b10
    have m6:w2.heap.size≤g6:=by omega
    refine hK.out _ _ (Z00q hHeld b10 (Nat.le_refl _)) (fun hHeld=>?_)
    clear hK K
    try simp only [z]
    refine rd 6 rfl (fun K hK=>?_)
    go_simp
    refine(Z0l (H2.later hHeld).fd o.fd).mono ?_
    rintro e w6 ⟨rfl,b6⟩
    try go_wp2_with fail
    try (have p6:=p6.later b6)
    refine hK.out _ _ (Z00q hHeld b6 (Nat.le_refl _)) (fun hHeld=>?_)
    clear hK K
    try simp only [z]
    refine tl 7 (.tuple #[.agg (Z01 Z.t o.fd).cs.toArray, .int .i64 (Z04 Z.t o.fd)]) rfl ?_
    try simp only [z]
    refine tl 8 (.agg (Z01 Z.t o.fd).cs.toArray) rfl ?_
    try simp only [z]
    refine tl 9 (.int .i64 (Z04 Z.t o.fd)) rfl ?_
    try simp only [z]
    refine rd 11 rfl (fun K hK=>?_)
    refine Z0j rfl _ _ (by rfl) g6 (by rfl) (Z01 Z.t o.fd) (by rfl) _ p6 rfl ?_
    intro w11 p11 s11
    refine hK.out _ _ (((Stp.of_below hHeld (fun _=>False)).next s11 (fun x e=> .inr (by omega))).below (Nat.le_refl _) (fun _ h=>h.elim)) (fun hHeld=>?_)
    clear hK K
    try simp only [Act.put]
    refine tl 12 (.int .i64 (Z04 Z.t o.fd)) rfl ?_
    try simp only [z]
    refine wpAnyH_done (by kernel_rfl) ?_ _
    go_wp2_with fail
    go_meet
    exact⟨g6,rfl,rfl,p11,m6,hHeld⟩
 case rest=>
  obtain⟨g6,rfl,rfl,r6,m6,b3⟩:=hcut
  replace Bc:=Z00q Bc b3 (Nat.le_refl _)
  replace r1:=r1.later b3
  replace r2:=r2.later b3
  have zb3:=b3.size
  have l6:=r6.lt
  try clear c10
  try clear c13
  try clear c17
  have c10:=r1.cell 0 _ rfl
  have c13:=r1.cell 3 _ rfl
  have c17:_=some (Value.slice sa sl sc):=r1.cell 7 _ rfl
  try rw [hk]at c10
  rw [hE]
  have lf:=H.fd.lt
  have nf1:¬g1=fb:=by omega
  have nf6:¬g6=fb:=by omega
  have d2:=r6.cell 2 _ rfl
  rw [hM.out]at d2
  have d1:=r6.cell 1 _ rfl
  rw [hP.out]at d1
  have hy':¬(4096:Int) < (sl:Int):=by omega
  have hq':48640 - (sl:Int) < (P:Int):=by omega
  go_wp2_with (first
   | (go_at_call 35;refine(Z0b _ _).mono ?_;rintro e wf ⟨rfl,bf⟩
      replace Bc:=Z00q Bc bf (Nat.le_refl _)
      replace r2:=r2.later bf)
   | (refine Z03 (by rfl) _ _ (by rfl) g2 (by rfl) (anC 31 0 nilV nilV 0 0 0) 31 (Z07 31) (by rfl) _ r2 rfl ?_;intro w9 r9 s9))
  exact bodyPost_ret (Z0a Z06 Tryz.results30 rfl r9 rfl) rfl ⟨anC 31 0 nilV nilV 0 0 0,rfl,Z07 31,(Z0e ⟨fb,r,c,A,F,sd,sn,H,hUU⟩ Bc (by omega) s9)⟩
set_option maxHeartbeats 8000000 in
theorem Zgh {w:World} {U:Nat→Prop} {y n:Nat} {Z:Tz} (h:Dx w U y Z) (hz:Z.ok n) (hn:n≤900) (o:Oz) {sa:Option Addr} {sl sc:Nat} (hk:o.k=4) (hE:Z04 Z.t o.fd=0) {M:Int} {P:Nat} (hM:Hid ((Z01 Z.t o.fd).m=M)) (hP:Hid ((Z01 Z.t o.fd).p=(P:Int))) (hPb:P≤48640) (hsb:sl≤4096) (hx:¬M < 2) (hs0:sl=0):
 Calls Tryz.prog 30 #[.pointer (some ⟨y,0,none⟩), .agg (opC o ⟨sa,sl,sc⟩).toArray] w fun e w'=>RetY e U y Z 0 w w':=by
 subst hs0
 have hU:=h.low
 obtain⟨fb,r,c,A,F,sd,sn,H,hUU⟩:=h
 go_enter Tryz.func30,Tryz.ntmps30
 go_upto_region 1 with(first
  | (refine Z05 (by rfl) _ (by rfl) o ⟨sa,0,sc⟩ (by rfl) ?_;intro g1 w1 z1 z2 r1 b1
     have Bc:=b1
     have v1:=b1.size
     try clear c10
     try clear c13
     try clear c17
     have c10:=r1.cell 0 _ rfl
     have c13:=r1.cell 3 _ rfl
     have c17:_=some (Value.slice sa 0 sc):=r1.cell 7 _ rfl
     try rw [hk]at c10)
  | (refine Z02 (by rfl) (by rfl) ?_;intro g2 w2 z3 z4 r2 b2
     replace Bc:=Z00q Bc b2 (Nat.le_refl _)
     have v2:=b2.size
     try (replace r1:=r1.later b2)
     try (replace r2:=r2.later b2)
     try clear c10
     try clear c13
     try clear c17
     have c10:=r1.cell 0 _ rfl
     have c13:=r1.cell 3 _ rfl
     have c17:_=some (Value.slice sa 0 sc):=r1.cell 7 _ rfl
     try rw [hk]at c10))
 simp only [Act.put,List.setIfInBounds_toArray,List.set_cons_zero,List.set_cons_succ]
 go_cut [5,6] (fun u v wx=>∃ g6,u= .pointer (some ⟨g6,0,none⟩)∧v= .int .i64 (Z04 Z.t o.fd)∧Cs wx g6 (Z01 Z.t o.fd).cs∧w2.heap.size≤g6∧Below w2.heap.size w2 wx)
 case first=>
  have H2:=H.later Bc
  refine wp_region_held_drew (S:=fun u=>Below w2.heap.size w2 u) (by kernel_rfl) (Below.refl _ _).drew (fun hHeld=>?_)
  refine tl 0 (.pointer (some ⟨y,0,none⟩)) rfl ?_
  try simp only [z]
  refine tl 1 (.pointer (some ⟨y,0,none⟩)) rfl ?_
  try simp only [z]
  refine tl 2 (.pointer (some ⟨y,1,none⟩)) rfl ?_
  try simp only [z]
  refine tl 3 (.pointer (some ⟨fb,0,none⟩)) rfl ?_ (fun u hu=>by have x1:=(H2.later hu).c1;go_simp)
  try simp only [z]
  refine tl 4 (.pointer (some ⟨g1,3,none⟩)) rfl ?_
  try simp only [z]
  refine tl 5 (.int .i64 o.fd) rfl ?_ (fun u hu=>by have x1:=(r1.later hu).cell 3 _ rfl;go_simp)
  try simp only [z]
  refine wpAnyH_ready (rs:= [6,10]) (by kernel_rfl) (by simp) ?_
  refine(AllReadyH.cons (o:=⟨some 20, .call { callee:=Callee.value (.func 70),args:=#[.tmp 17, .tmp 19],argTypes:=#[40,3]},116,_,#[⟨3, .data⟩,⟨5, .data⟩],none⟩) rfl (fun K hK=>?_) (AllReadyH.cons (o:=⟨some 5, .alloc 97,0,_,#[],none⟩) rfl (fun K hK=>?_) AllReadyH.nil))
  · skip
    go_simp
    refine(Z0l (H2.later hHeld).fd o.fd).mono ?_
    rintro e w6 ⟨rfl,b6⟩
    try go_wp2_with fail
    try (have p6:=p6.later b6)
    refine hK.out _ _ (Z00q hHeld b6 (Nat.le_refl _)) (fun hHeld=>?_)
    clear hK K
    try simp only [z]
    refine tl 7 (.tuple #[.agg (Z01 Z.t o.fd).cs.toArray, .int .i64 (Z04 Z.t o.fd)]) rfl ?_
    try simp only [z]
    refine tl 8 (.agg (Z01 Z.t o.fd).cs.toArray) rfl ?_
    try simp only [z]
    refine tl 9 (.int .i64 (Z04 Z.t o.fd)) rfl ?_
    try simp only [z]
    refine rd 10 rfl (fun K hK=>?_)
    have zH:=hHeld.size
    refine Z0i rfl (by rfl) ?_
    intro g6 w10 y6 y7 p6 b10
    have m6:w2.heap.size≤g6:=by omega
    refine hK.out _ _ (Z00q hHeld b10 (Nat.le_refl _)) (fun hHeld=>?_)
    clear hK K
    try simp only [z]
    refine rd 11 rfl (fun K hK=>?_)
    refine Z0j rfl _ _ (by rfl) g6 (by rfl) (Z01 Z.t o.fd) (by rfl) _ p6 rfl ?_
    intro w11 p11 s11
    refine hK.out _ _ (((Stp.of_below hHeld (fun _=>False)).next s11 (fun x e=> .inr (by omega))).below (Nat.le_refl _) (fun _ h=>h.elim)) (fun hHeld=>?_)
    clear hK K
    try simp only [Act.put]
    refine tl 12 (.int .i64 (Z04 Z.t o.fd)) rfl ?_
    try simp only [z]
    refine wpAnyH_done (by kernel_rfl) ?_ _
    go_wp2_with fail
    go_meet
    exact⟨g6,rfl,rfl,p11,m6,hHeld⟩
  · skip
    have zH:=hHeld.size
    refine Z0i rfl (by rfl) ?_
    intro g6 w10 y6 y7 p6 b10
    have m6:w2.heap.size≤g6:=by omega
    refine hK.out _ _ (Z00q hHeld b10 (Nat.le_refl _)) (fun hHeld=>?_)
    clear hK K
    try simp only [z]
    refine rd 6 rfl (fun K hK=>?_)
    go_simp
    refine(Z0l (H2.later hHeld).fd o.fd).mono ?_
    rintro e w6 ⟨rfl,b6⟩
    try go_wp2_with fail
    try (have p6:=p6.later b6)
    refine hK.out _ _ (Z00q hHeld b6 (Nat.le_refl _)) (fun hHeld=>?_)
    clear hK K
    try simp only [z]
    refine tl 7 (.tuple #[.agg (Z01 Z.t o.fd).cs.toArray, .int .i64 (Z04 Z.t o.fd)]) rfl ?_
    try simp only [z]
    refine tl 8 (.agg (Z01 Z.t o.fd).cs.toArray) rfl ?_
    try simp only [z]
    refine tl 9 (.int .i64 (Z04 Z.t o.fd)) rfl ?_
    try simp only [z]
    refine rd 11 rfl (fun K hK=>?_)
    refine Z0j rfl _ _ (by rfl) g6 (by rfl) (Z01 Z.t o.fd) (by rfl) _ p6 rfl ?_
    intro w11 p11 s11
    refine hK.out _ _ (((Stp.of_below hHeld (fun _=>False)).next s11 (fun x e=> .inr (by omega))).below (Nat.le_refl _) (fun _ h=>h.elim)) (fun hHeld=>?_)
    clear hK K
    try simp only [Act.put]
    refine tl 12 (.int .i64 (Z04 Z.t o.fd)) rfl ?_
    try simp only [z]
    refine wpAnyH_done (by kernel_rfl) ?_ _
    go_wp2_with fail
    go_meet
    exact⟨g6,rfl,rfl,p11,m6,hHeld⟩
 case rest=>
  obtain⟨g6,rfl,rfl,r6,m6,b3⟩:=hcut
  replace Bc:=Z00q Bc b3 (Nat.le_refl _)
  replace r1:=r1.later b3
  replace r2:=r2.later b3
  have zb3:=b3.size
  have l6:=r6.lt
  try clear c10
  try clear c13
  try clear c17
  have c10:=r1.cell 0 _ rfl
  have c13:=r1.cell 3 _ rfl
  have c17:_=some (Value.slice sa 0 sc):=r1.cell 7 _ rfl
  try rw [hk]at c10
  rw [hE]
  have lf:=H.fd.lt
  have nf1:¬g1=fb:=by omega
  have nf6:¬g6=fb:=by omega
  have d2:=r6.cell 2 _ rfl
  rw [hM.out]at d2
  have d1:=r6.cell 1 _ rfl
  rw [hP.out]at d1
  have hy':¬(4096:Int) < ((0:Nat):Int):=by omega
  have hq':¬48640 - ((0:Nat):Int) < (P:Int):=by omega
  have hq2:¬48640 - (0:Int) < (P:Int):=by omega
  have hq3:¬48640 < (P:Int):=by omega
  go_wp2_with (first
   | (refine Z03 (by rfl) _ _ (by rfl) g2 (by rfl) anZ 0 Z0c (by rfl) _ r2 rfl ?_;intro w9 r9 s9))
  exact bodyPost_ret (Z0a Z06 Tryz.results30 rfl r9 rfl) rfl ⟨anZ,rfl,Z0c,(Z0e ⟨fb,r,c,A,F,sd,sn,H,hUU⟩ Bc (by omega) s9)⟩
set_option maxRecDepth 100000
theorem OwB.at {B n:Nat} {w:World} {v:Value} {d:List Int} (h:OwB B w v d) (hn:d.length=n) (h0:0 < n):∃ g c,v= .slice (some ⟨g,0,none⟩) n c∧B≤g∧g < w.heap.size:=by
 subst hn
 have lt:=h.1.lt
 have nw:=h.2
 rcases h.1.2 with⟨_,h2⟩ | ⟨g,cap,cur,rfl,_⟩
 · omega
 · exact⟨g,cap,rfl,nw g rfl,(lt g rfl).2⟩
theorem OwB.put {B n g c:Nat} {w:World} {d:List Int} (h:OwB B w (.slice (some ⟨g,0,none⟩) n c) d) (hn:d.length=n) (i:Nat) (x:Int):OwB B (w.setCell ⟨g,i,none⟩ (.int .u8 x)) (.slice (some ⟨g,0,none⟩) n c) (d.set i x):=by
 subst hn
 refine⟨?_,h.2⟩
 have:=(World.ownsRow.stored h.1 i (.int .u8 x)).1
 unfold OwD
 rw [List.length_set,List.map_set];exact this
theorem OwB.frozen {B n g c:Nat} {w:World} {d:List Int} (h:OwB B w (.slice (some ⟨g,0,none⟩) n c) d) (hn:d.length=n) (i:Nat):w.frozen? ⟨g,i,none⟩=false:=by
 subst hn
 exact World.ownsRow.frozenAt h.1 i
theorem OwB.cell {B n g c:Nat} {w:World} {d:List Int} (h:OwB B w (.slice (some ⟨g,0,none⟩) n c) d) (hn:d.length=n) {i:Nat} (hi:i < n):∃ x,w.cell? ⟨g,i,none⟩=some (.int .u8 x):=by
 subst hn
 have:=World.ownsRow.cells h.1 (g:=g) rfl i (.int .u8 d[i]) (by rw [List.getElem?_map,List.getElem?_eq_getElem hi];rfl)
 rw [Addr.add_lit,Nat.zero_add]at this
 exact⟨_,this⟩
theorem OwB.step {B:Nat} {w w':World} {v:Value} {d:List Int} {F:Nat→Prop} (h:OwB B w v d) (k:Stp F w w') (hF:∀ r,v.ownBlock=some r→¬F r):OwB B w' v d:=⟨h.1.step k hF,h.2⟩
theorem Zcx (d:List Int) (o:Nat):spD d o []=d:=by unfold spD;simp
theorem Zcw {d x:List Int} {o i:Nat} (hi:i < x.length) (h:o+x.length≤d.length):spD d o (x.take (i+1))=(spD d o (x.take i)).set (o+i) (x.getD i 0):=by
 unfold spD
 have e1:(x.take i).length=i:=by simp;omega
 have e2:(x.take (i+1)).length=i+1:=by simp;omega
 have e3:(d.take o++x.take i).length=o+i:=by simp;omega
 have e4:x.take (i+1)=x.take i++ [x[i]]:=by simp
 rw [e1,e2,List.set_append_right _ _ (by omega),e3,Nat.sub_self,List.getD_eq_getElem?_getD,List.getElem?_eq_getElem hi,List.drop_eq_getElem_cons (show o+i < d.length by omega),e4]
 simp [Nat.add_assoc, -List.take_append_getElem]
set_option maxHeartbeats 8000000 in
theorem Zgl {w:World} {U:Nat→Prop} {y n:Nat} {Z:Tz} (h:Dx w U y Z) (hz:Z.ok n) (hn:n≤900) (o:Oz) {sa:Option Addr} {sl sc:Nat} (hs:BsS w ⟨sa,sl,sc⟩ o.d) (he:InE (fun z=>¬U z) ⟨sa,sl,sc⟩) (hk:o.k=4) (hE:Z04 Z.t o.fd=0) {M:Int} {P:Nat} (hM:Hid ((Z01 Z.t o.fd).m=M)) (hP:Hid ((Z01 Z.t o.fd).p=(P:Int))) (hPb:P≤48640) (hsb:sl≤4096) (hx:¬M < 2) (hq:¬48640 < P+sl) (hs0:0 < sl) {ki:Nat} (hi:Hid ((Z01 Z.t o.fd).i=(ki:Int))) (hik:ki < Z.N.length) (hdl:(Z.nd (ki:Int)).d.length≤48640) (hdb:∀ b ∈ (Z.nd (ki:Int)).d,0≤b∧b≤255):
 Calls Tryz.prog 30 #[.pointer (some ⟨y,0,none⟩), .agg (opC o ⟨sa,sl,sc⟩).toArray] w fun e w'=>RetY e U y ((Z.dat (ki:Int) (wrB (Z.nd (ki:Int)).d P o.d)).fds (Z0f Z.t o.fd ((P:Int)+(sl:Int)))) 0 w w':=by
 obtain⟨bs,os,rfl,hcs⟩:=hs.cell hs0
 have hsl:=hs.len
 have hsbl:=hs.cap
 have hsle:=hs.le
 have hsx:=hs.byte
 unfold maxLen at hsbl
 simp only at hsl hsbl hsle
 have nbU:¬U bs:=he _ rfl hs0
 have hcs':∀ i,i < sl→w.cell? ⟨bs,os+i,none⟩=some (.int .u8 (o.d.getD i 0)):=hcs
 clear hcs he
 have hU:=h.low
 obtain⟨fb,r,c,A,F,sd,sn,H,hUU⟩:=h
 go_enter Tryz.func30,Tryz.ntmps30
 go_upto_region 1 with(first
  | (refine Z05 (by rfl) _ (by rfl) o ⟨some ⟨bs,os,none⟩,sl,sc⟩ (by rfl) ?_;intro g1 w1 z1 z2 r1 b1
     have Bc:=b1
     have v1:=b1.size
     try clear c10
     try clear c13
     try clear c17
     have c10:=r1.cell 0 _ rfl
     have c13:=r1.cell 3 _ rfl
     have c17:_=some (Value.slice (some ⟨bs,os,none⟩) sl sc):=r1.cell 7 _ rfl
     try rw [hk]at c10)
  | (refine Z02 (by rfl) (by rfl) ?_;intro g2 w2 z3 z4 r2 b2
     replace Bc:=Z00q Bc b2 (Nat.le_refl _)
     have v2:=b2.size
     try (replace r1:=r1.later b2)
     try (replace r2:=r2.later b2)
     try clear c10
     try clear c13
     try clear c17
     have c10:=r1.cell 0 _ rfl
     have c13:=r1.cell 3 _ rfl
     have c17:_=some (Value.slice (some ⟨bs,os,none⟩) sl sc):=r1.cell 7 _ rfl
     try rw [hk]at c10))
 simp only [Act.put,List.setIfInBounds_toArray,List.set_cons_zero,List.set_cons_succ]
 go_cut [5,6] (fun u v wx=>∃ g6,u= .pointer (some ⟨g6,0,none⟩)∧v= .int .i64 (Z04 Z.t o.fd)∧Cs wx g6 (Z01 Z.t o.fd).cs∧w2.heap.size≤g6∧Below w2.heap.size w2 wx)
 case first=>
  have H2:=H.later Bc
  refine wp_region_held_drew (S:=fun u=>Below w2.heap.size w2 u) (by kernel_rfl) (Below.refl _ _).drew (fun hHeld=>?_)
  refine tl 0 (.pointer (some ⟨y,0,none⟩)) rfl ?_
  try simp only [z]
  refine tl 1 (.pointer (some ⟨y,0,none⟩)) rfl ?_
  try simp only [z]
  refine tl 2 (.pointer (some ⟨y,1,none⟩)) rfl ?_
  try simp only [z]
  refine tl 3 (.pointer (some ⟨fb,0,none⟩)) rfl ?_ (fun u hu=>by have x1:=(H2.later hu).c1;go_simp)
  try simp only [z]
  refine tl 4 (.pointer (some ⟨g1,3,none⟩)) rfl ?_
  try simp only [z]
  refine tl 5 (.int .i64 o.fd) rfl ?_ (fun u hu=>by have x1:=(r1.later hu).cell 3 _ rfl;go_simp)
  try simp only [z]
  refine wpAnyH_ready (rs:= [6,10]) (by kernel_rfl) (by simp) ?_
  refine(AllReadyH.cons (o:=⟨some 20, .call { callee:=Callee.value (.func 70),args:=#[.tmp 17, .tmp 19],argTypes:=#[40,3]},116,_,#[⟨3, .data⟩,⟨5, .data⟩],none⟩) rfl (fun K hK=>?_) (AllReadyH.cons (o:=⟨some 5, .alloc 97,0,_,#[],none⟩) rfl (fun K hK=>?_) AllReadyH.nil))
  · skip
    go_simp
    refine(Z0l (H2.later hHeld).fd o.fd).mono ?_
    rintro e w6 ⟨rfl,b6⟩
    try go_wp2_with fail
    try (have p6:=p6.later b6)
    refine hK.out _ _ (Z00q hHeld b6 (Nat.le_refl _)) (fun hHeld=>?_)
    clear hK K
    try simp only [z]
    refine tl 7 (.tuple #[.agg (Z01 Z.t o.fd).cs.toArray, .int .i64 (Z04 Z.t o.fd)]) rfl ?_
    try simp only [z]
    refine tl 8 (.agg (Z01 Z.t o.fd).cs.toArray) rfl ?_
    try simp only [z]
    refine tl 9 (.int .i64 (Z04 Z.t o.fd)) rfl ?_
    try simp only [z]
    refine rd 10 rfl (fun K hK=>?_)
    have zH:=hHeld.size
    refine Z0i rfl (by rfl) ?_
    intro g6 w10 y6 y7 p6 b10
    have m6:w2.heap.size≤g6:=by omega
    refine hK.out _ _ (Z00q hHeld b10 (Nat.le_refl _)) (fun hHeld=>?_)
    clear hK K
    try simp only [z]
    refine rd 11 rfl (fun K hK=>?_)
    refine Z0j rfl _ _ (by rfl) g6 (by rfl) (Z01 Z.t o.fd) (by rfl) _ p6 rfl ?_
    intro w11 p11 s11
    refine hK.out _ _ (((Stp.of_below hHeld (fun _=>False)).next s11 (fun x e=> .inr (by omega))).below (Nat.le_refl _) (fun _ h=>h.elim)) (fun hHeld=>?_)
    clear hK K
    try simp only [Act.put]
    refine tl 12 (.int .i64 (Z04 Z.t o.fd)) rfl ?_
    try simp only [z]
    refine wpAnyH_done (by kernel_rfl) ?_ _
    go_wp2_with fail
    go_meet
    exact⟨g6,rfl,rfl,p11,m6,hHeld⟩
  · skip
    have zH:=hHeld.size
    refine Z0i rfl (by rfl) ?_
    intro g6 w10 y6 y7 p6 b10
    have m6:w2.heap.size≤g6:=by omega
    refine hK.out _ _ (Z00q hHeld b10 (Nat.le_refl _)) (fun hHeld=>?_)
    clear hK K
    try simp only [z]
    refine rd 6 rfl (fun K hK=>?_)
    go_simp
    refine(Z0l (H2.later hHeld).fd o.fd).mono ?_
    rintro e w6 ⟨rfl,b6⟩
    try go_wp2_with fail
    try (have p6:=p6.later b6)
    refine hK.out _ _ (Z00q hHeld b6 (Nat.le_refl _)) (fun hHeld=>?_)
    clear hK K
    try simp only [z]
    refine tl 7 (.tuple #[.agg (Z01 Z.t o.fd).cs.toArray, .int .i64 (Z04 Z.t o.fd)]) rfl ?_
    try simp only [z]
    refine tl 8 (.agg (Z01 Z.t o.fd).cs.toArray) rfl ?_
    try simp only [z]
    refine tl 9 (.int .i64 (Z04 Z.t o.fd)) rfl ?_
    try simp only [z]
    refine rd 11 rfl (fun K hK=>?_)
    refine Z0j rfl _ _ (by rfl) g6 (by rfl) (Z01 Z.t o.fd) (by rfl) _ p6 rfl ?_
    intro w11 p11 s11
    refine hK.out _ _ (((Stp.of_below hHeld (fun _=>False)).next s11 (fun x e=> .inr (by omega))).below (Nat.le_refl _) (fun _ h=>h.elim)) (fun hHeld=>?_)
    clear hK K
    try simp only [Act.put]
    refine tl 12 (.int .i64 (Z04 Z.t o.fd)) rfl ?_
    try simp only [z]
    refine wpAnyH_done (by kernel_rfl) ?_ _
    go_wp2_with fail
    go_meet
    exact⟨g6,rfl,rfl,p11,m6,hHeld⟩
 case rest=>
  obtain⟨g6,rfl,rfl,r6,m6,b3⟩:=hcut
  replace Bc:=Z00q Bc b3 (Nat.le_refl _)
  replace r1:=r1.later b3
  replace r2:=r2.later b3
  have zb3:=b3.size
  have l6:=r6.lt
  try clear c10
  try clear c13
  try clear c17
  have c10:=r1.cell 0 _ rfl
  have c13:=r1.cell 3 _ rfl
  have c17:_=some (Value.slice (some ⟨bs,os,none⟩) sl sc):=r1.cell 7 _ rfl
  try rw [hk]at c10
  rw [hE]
  have lf:=H.fd.lt
  have nf1:¬g1=fb:=by omega
  have nf6:¬g6=fb:=by omega
  have d2:=r6.cell 2 _ rfl
  rw [hM.out]at d2
  have d1:=r6.cell 1 _ rfl
  rw [hP.out]at d1
  have a7:(ki:Int) < (Z.N.length:Int):=by omega
  have a6:(0:Int)≤(ki:Int):=by omega
  have hy':¬(4096:Int) < (sl:Int):=by omega
  have hq':¬48640 - (sl:Int) < (P:Int):=by omega
  have qS:((sl:Int)==0)=false:=by simp;omega
  have Hc:=H.later Bc
  have r1c:=r1
  have r6c:=r6
  go_upto_region 27 with fail
  go_cut [10] (fun u wx=>u= .slice (sd ki).a (sd ki).n (sd ki).c∧Below wc.heap.size wc wx)
  case first=>
   refine wp_region_held_drew (S:=fun u=>Below wc.heap.size wc u) (by kernel_rfl) (Below.refl _ _).drew (fun hHeld=>?_)
   refine tl 0 (.pointer (some ⟨y,0,none⟩)) rfl ?_
   try simp only [z]
   refine tl 1 (.pointer (some ⟨y,0,none⟩)) rfl ?_
   try simp only [z]
   refine tl 2 (.pointer (some ⟨y,0,none⟩)) rfl ?_
   try simp only [z]
   refine tl 3 (.slice (some ⟨r,0,none⟩) Z.N.length c) rfl ?_ (fun u hu=>by have x1:=(Hc.later hu).c0;go_simp)
   try simp only [z]
   refine tl 4 (.pointer (some ⟨g6,0,none⟩)) rfl ?_
   try simp only [z]
   refine tl 5 (.int .i64 (ki:Int)) rfl ?_ (fun u hu=>by have x1:=(r6c.later hu).cell 0 _ rfl;rw [hi.out]at x1;go_simp)
   try simp only [z]
   refine tl 6 (.pointer (some ⟨r,ki * 4,none⟩)) rfl ?_
   try simp only [z]
   refine tl 7 (.pointer (some ⟨r,ki * 4+2,none⟩)) rfl ?_
   try simp only [z]
   refine tl 8 (.slice (sd ki).a (sd ki).n (sd ki).c) rfl ?_ (fun u hu=>by have x1:=(Hc.later hu).ndt hik;go_simp)
   try simp only [z]
   refine tl 9 (.slice (sd ki).a (sd ki).n (sd ki).c) rfl ?_
   try simp only [z]
   refine wpAnyH_done (by kernel_rfl) ?_ _
   go_wp2_with fail
   go_meet
   exact⟨rfl,hHeld⟩
  case rest=>
   obtain⟨rfl,b4⟩:=hcut
   replace Bc:=Z00q Bc b4 (Nat.le_refl _)
   replace r1:=r1.later b4
   replace r2:=r2.later b4
   replace r6:=r6.later b4
   have zb4:=b4.size
   have zBc:=Bc.size
   clear Hc r6c r1c
   have Hc:=H.later Bc
   clear hE d2 c10 c13 c17 d1
   have d1:=r6.cell 1 _ rfl
   rw [hP.out]at d1
   have c17:_=some (Value.slice (some ⟨bs,os,none⟩) sl sc):=r1.cell 7 _ rfl
   have sb:=(Hc.dt ki hik).1
   rw [Z5d]at sb
   obtain⟨dd,hdd⟩:∃ dd,Hid ((Z.nd (ki:Int)).d=dd):=⟨_,rfl⟩
   rw [hdd.out]at sb hdl hdb
   have hL:=sb.len
   have hle6:=sb.le
   obtain⟨L,hLL⟩:∃ L,Hid ((sd ki).n=L):=⟨_,rfl⟩
   have sb':BsS wc ⟨(sd ki).a,L,(sd ki).c⟩ dd:=by rw [← hLL.out];exact sb
   clear sb
   rw [hLL.out]at hL hle6 ⊢
   have hmx:max (L:Int) ((P:Int)+(sl:Int))=((max L (P+sl):Nat):Int):=by omega
   obtain⟨X,hX⟩:∃ X,X=max L (P+sl):=⟨_,rfl⟩
   rw [← hX]at hmx
   have hX1:P+sl≤X:=by omega
   have hX2:X≤48640:=by omega
   have eW:Hid (wrB dd P o.d=spD (ctB' dd X) P o.d):=by
    show _=_
    rw [← Z8d,hX,hL,hsl]
   have hCl:=Z3w dd X
   have hCb:=Z3j hdb X
   clear hX
   have ldl:=fun {u:World} {v:Value} (q:OwB wc.heap.size u v (ctB' dd X))=>q.at hCl (by omega)
   go_wp2_with (first
    | (go_at_call 74;refine(Z86 sb' hdl X hX2).mono ?_;rintro e w7 ⟨v7,rfl,o7,b7⟩
       obtain⟨gc,c7,rfl,hg7,hl7⟩:=ldl o7
       clear ldl
       replace Bc:=Z00q Bc b7 (Nat.le_refl _)
       replace r1:=r1.later b7
       replace r2:=r2.later b7
       replace r6:=r6.later b7
       have zb7:=b7.size
       clear c17 d1))
   have l1:=r1.lt
   have lr:=H.row.lt
   have ly:=H.tr.lt
   have n1:¬g1=gc:=by omega
   have n6:¬g6=gc:=by omega
   have n2:¬g2=gc:=by omega
   have nb:bs < w.heap.size:=World.block_lt_of_cell? _ _ (hcs' 0 hs0)
   have nbc:¬bs=gc:=by have:=Bc.size;omega
   have hcs7:Hid (∀ i,i < sl→w7.cell? ⟨bs,os+i,none⟩=some (.int .u8 (o.d.getD i 0))):=fun i hi=>(Stp.of_below Bc (fun _=>False)).cell (hcs' i hi) (fun e=>e)
   clear hcs'
   obtain⟨C,hC⟩:∃ C,Hid (ctB' dd X=C):=⟨_,rfl⟩
   rw [hC.out]at o7 hCl hCb
   rw [hC.out]at eW
   go_loopw [12] (fun iv wr=>∃ i:Nat,iv= .int .i64 (i:Int)∧i≤sl∧OwB wc.heap.size wr (.slice (some ⟨gc,0,none⟩) X c7) (spD C P (o.d.take i))∧Stp (fun z=>z=gc) w7 wr) (fun iv _=>sl - (intOf iv).toNat)
   case atStart=>exact⟨0,rfl,Nat.zero_le _,by rw [List.take_zero,Zcx];exact o7,Stp.refl _ _⟩
   case round=>
    obtain⟨i,rfl,hii,hO,hS⟩:=hrel
    have hLi:(spD C P (o.d.take i)).length=X:=by rw [Z6s _ _ _ (by simp;omega)];exact hCl
    have r1w:=r1.step hS n1
    have r6w:=r6.step hS n6
    have c17:_=some (Value.slice (some ⟨bs,os,none⟩) sl sc):=r1w.cell 7 _ rfl
    by_cases hlt:i < sl
    · have a9:(i:Int) < (sl:Int):=by omega
      have a8:(0:Int)≤(i:Int):=by omega
      have aP:(P:Int)+(i:Int)=((P+i:Nat):Int):=by omega
      have aX:((P+i:Nat):Int) < (X:Int):=by omega
      have aX0:(0:Int)≤((P+i:Nat):Int):=by omega
      have xc:=hcs7.out i hlt
      have xc':=hS.cell xc nbc
      obtain⟨xi,hxi⟩:∃ xi,Hid (o.d.getD i 0=xi):=⟨_,rfl⟩
      rw [hxi.out]at xc'
      clear xc
      have fz:=hO.frozen hLi (P+i)
      obtain⟨xo,hxo⟩:=hO.cell hLi (show P+i < X by omega)
      obtain⟨k,hk2⟩:∃ k,Hid (P+i=k):=⟨_,rfl⟩
      have wk:IntKind.i64.wrap (k:Int)=(k:Int):=by rw [IntKind.wrap_i64];have:=hk2.out;omega
      rw [hk2.out]at aP aX aX0 fz hxo
      have hO2:=(show OwB _ wr.drew _ _ from hO.step (Stp.of_below (Below.refl _ _).drew (fun _=>False)) (fun _ _ e=>e)).put hLi k xi
      have e8:Hid ((spD C P (o.d.take i)).set k xi=spD C P (o.d.take (i+1))):=by
       show _=_
       rw [Zcw (by omega) (by omega),hk2.out,hxi.out]
      rw [e8.out]at hO2
      clear hO
      go_upto_region 32 with fail
      refine Z0p (S:=fun u=>Below wr.heap.size wr u) _ _ (by simp only [List.pop_toArray,List.dropLast_cons_cons,List.dropLast_singleton];rfl) (by simp only [List.back?_toArray,List.getLast?_cons_cons,List.getLast?_singleton];rfl) (by kernel_rfl) (by kernel_rfl) (Below.refl _ _).drew (fun hHeld=>?_)
      refine tl 0 (.slice (some ⟨gc,0,none⟩) X c7) rfl ?_
      try simp only [z]
      refine tl 1 (.pointer (some ⟨g6,1,none⟩)) rfl ?_
      try simp only [z]
      refine tl 2 (.int .i64 (P:Int)) rfl ?_ (fun u hu=>by have x1:=(r6w.later hu).cell 1 _ rfl;rw [hP.out]at x1;go_simp)
      try simp only [z]
      refine tl 3 (.int .i64 (i:Int)) rfl ?_
      try simp only [z]
      refine tl 4 (.int .i64 (k:Int)) rfl ?_
      try simp only [z]
      refine tl 5 (.pointer (some ⟨g1,7,none⟩)) rfl ?_
      try simp only [z]
      refine tl 6 (.slice (some ⟨bs,os,none⟩) sl sc) rfl ?_ (fun u hu=>by have x1:_=some (Value.slice (some ⟨bs,os,none⟩) sl sc):=(r1w.later hu).cell 7 _ rfl;go_simp)
      try simp only [z]
      refine tl 7 (.int .i64 (i:Int)) rfl ?_
      try simp only [z]
      refine tl 8 (.pointer (some ⟨bs,os+i,none⟩)) rfl ?_
      try simp only [z]
      refine tl 9 (.int .u8 xi) rfl ?_ (fun u hu=>by have x1:=(Stp.of_below hu (fun _=>False)).cell xc' (fun e=>e);go_simp)
      try simp only [z]
      refine tl 10 (.pointer (some ⟨gc,k,none⟩)) rfl ?_
      try simp only [z]
      refine wpAnyH_done (by kernel_rfl) ?_ _
      show wpList _ _ _ [_] _ _
      have fz2:wr.drew.frozen? ⟨gc,k,none⟩=false:=fz
      have hxo2:wr.drew.cell? ⟨gc,k,none⟩=some (.int .u8 xo):=hxo
      go_wp2_with fail
      go_roundw
      case rel=>exact⟨i+1,by go_num,by omega,hO2,(hS.trans (Stp.of_below (Below.refl _ _).drew _)).next ((Stp.refl (fun z=>z=gc) wr.drew).setCell (p:=⟨gc,k,none⟩) (.inl rfl) _) (fun x e=> .inl e)⟩
      case measure=>simp [intOf];omega
    · obtain rfl:sl=i:=by omega
      clear hlt hii
      have wk:IntKind.i64.wrap ((P:Int)+(sl:Int))=(P:Int)+(sl:Int):=by rw [IntKind.wrap_i64];omega
      have a9:¬(sl:Int) < (sl:Int):=by omega
      have hWl:(wrB dd P o.d).length=X:=by rw [eW.out,Z6s _ _ _ (by omega)];exact hCl
      have hWb:=Z8i hdb P hsx
      have hW:=hO
      rw [List.take_of_length_le (by omega),← eW.out]at hW
      clear hO
      obtain⟨_,sbW,_⟩:=OwD.bsS (s:=⟨some ⟨gc,0,none⟩,X,c7⟩) hW.1 hWb
      have H7:=(H.later Bc).step hS (by omega) (by omega) (by omega) (fun x hx=>by have:=(H.nA x hx).2.2.2;omega)
      have Hg:=H7.more (A':=fun x=>A x∨x=gc) (fun x e=> .inl e) (fun x e=>by
       rcases e with e | e
       · obtain⟨q1,q2,q3,q4⟩:=H7.nA x e;exact⟨q1,q2,q3,q4⟩
       · subst e;exact⟨by omega,by omega,by omega,Nat.lt_of_lt_of_le hl7 hS.size⟩)
      have Bw:Below w.heap.size w wr:=((Stp.of_below Bc (fun _=>False)).next hS (fun x e=> .inr (by omega))).below (Nat.le_refl _) (fun x e=>e.elim)
      have r2w:=r2.step hS n2
      have hl7w:gc < wr.heap.size:=Nat.lt_of_lt_of_le hl7 hS.size
      have l2:=r2w.lt
      clear r1 r2 r6 hS H7 hcs7 qS hy' hq' Bc
      have fz:=Hg.row.frozen (ki * 4+2)
      have ce:=Hg.ndt hik
      go_upto_region 33 with fail
      go_cut [] (fun wx=>(∃ F' sd' sn',Dw wx y fb r c (fun x=>A x∨x=gc) F' sd' sn' (Z.dat (ki:Int) (wrB dd P o.d)))∧Stp (fun z=>z=r) wr wx)
      case first=>
       refine Z0p (S:=fun u=>Below wr.heap.size wr u) _ _ (by simp only [List.pop_toArray,List.dropLast_cons_cons,List.dropLast_singleton];rfl) (by simp only [List.back?_toArray,List.getLast?_cons_cons,List.getLast?_singleton];rfl) (by kernel_rfl) (by kernel_rfl) (Below.refl _ _).drew (fun hHeld=>?_)
       refine tl 0 (.pointer (some ⟨y,0,none⟩)) rfl ?_
       try simp only [z]
       refine tl 1 (.pointer (some ⟨y,0,none⟩)) rfl ?_
       try simp only [z]
       refine tl 2 (.pointer (some ⟨y,0,none⟩)) rfl ?_
       try simp only [z]
       refine tl 3 (.slice (some ⟨r,0,none⟩) Z.N.length c) rfl ?_ (fun u hu=>by have x1:=(Hg.later hu).c0;go_simp)
       try simp only [z]
       refine tl 4 (.pointer (some ⟨g6,0,none⟩)) rfl ?_
       try simp only [z]
       refine tl 5 (.int .i64 (ki:Int)) rfl ?_ (fun u hu=>by have x1:=(r6w.later hu).cell 0 _ rfl;rw [hi.out]at x1;go_simp)
       try simp only [z]
       refine tl 6 (.slice (some ⟨gc,0,none⟩) X c7) rfl ?_
       try simp only [z]
       refine tl 7 (.pointer (some ⟨r,ki * 4,none⟩)) rfl ?_
       try simp only [z]
       refine tl 8 (.pointer (some ⟨r,ki * 4+2,none⟩)) rfl ?_
       try simp only [z]
       refine wpAnyH_done (by kernel_rfl) ?_ _
       show wpList _ _ _ [_] _ _
       have fz2:wr.drew.frozen? ⟨r,ki * 4+2,none⟩=false:=fz
       have ce2:wr.drew.cell? ⟨r,ki * 4+2,none⟩=some (sd ki).v:=ce
       have Hd:=(Hg.later (show Below wr.heap.size wr wr.drew from(Below.refl _ _).drew)).set2 hik (s:=⟨some ⟨gc,0,none⟩,X,c7⟩) (d:=wrB dd P o.d) ⟨sbW.later (show Below wr.heap.size wr wr.drew from(Below.refl _ _).drew),fun ad e _=>by injection e with e;subst e;exact .inr rfl⟩
       go_wp2_with fail
       go_meet
       exact⟨⟨_,_,_,Hd⟩,((Stp.refl (fun z=>z=r) wr).drew).setCell (p:=⟨r,ki * 4+2,none⟩) (.inl rfl) _⟩
      case rest=>
       obtain⟨⟨F',sd',sn',HD⟩,s33⟩:=hcut
       have r1x:=r1w.step s33 (fun e=>by omega)
       have r2x:=r2w.step s33 (fun e=>by omega)
       have r6x:=r6w.step s33 (fun e=>by omega)
       have nf1':¬g1=fb:=nf1
       clear c17
       have c17:_=some (Value.slice (some ⟨bs,os,none⟩) sl sc):=r1x.cell 7 _ rfl
       go_upto_region 34 with fail
       go_cut [] (fun wx=>Rd wx fb (Z0f Z.t o.fd ((P:Int)+(sl:Int)))∧Stp (fun z=>z=fb) wc wx)
       case first=>
        refine wp_region_held_drew (S:=fun u=>Stp (fun z=>z=fb) wc u) (by kernel_rfl) (Stp.refl _ _).drew (fun hHeld=>?_)
        have HE:=HD.later (show Below wc.heap.size wc wc.drew from(Below.refl _ _).drew)
        refine tl 0 (.pointer (some ⟨y,0,none⟩)) rfl ?_
        try simp only [z]
        refine tl 1 (.pointer (some ⟨y,0,none⟩)) rfl ?_
        try simp only [z]
        refine tl 2 (.pointer (some ⟨y,1,none⟩)) rfl ?_
        try simp only [z]
        refine tl 3 (.pointer (some ⟨fb,0,none⟩)) rfl ?_ (fun u hu=>by have x1:=(hu.cell HD.c1 HD.n1);go_simp)
        try simp only [z]
        refine tl 4 (.pointer (some ⟨g1,3,none⟩)) rfl ?_
        try simp only [z]
        refine tl 5 (.int .i64 o.fd) rfl ?_ (fun u hu=>by have x1:=hu.cell (r1x.cell 3 _ rfl) nf1;go_simp)
        try simp only [z]
        refine tl 6 (.pointer (some ⟨g6,1,none⟩)) rfl ?_
        try simp only [z]
        refine tl 7 (.int .i64 (P:Int)) rfl ?_ (fun u hu=>by have x1:=hu.cell (r6x.cell 1 _ rfl) nf6;rw [hP.out]at x1;go_simp)
        try simp only [z]
        refine tl 8 (.pointer (some ⟨g1,7,none⟩)) rfl ?_
        try simp only [z]
        refine tl 9 (.slice (some ⟨bs,os,none⟩) sl sc) rfl ?_ (fun u hu=>by have x1:_=some (Value.slice (some ⟨bs,os,none⟩) sl sc):=hu.cell (r1x.cell 7 _ rfl) nf1;go_simp)
        try simp only [z]
        refine tl 10 (.int .i64 (sl:Int)) rfl ?_
        try simp only [z]
        refine tl 11 (.int .i64 ((P:Int)+(sl:Int))) rfl ?_
        try simp only [z]
        refine rd 12 rfl (fun K hK=>?_)
        go_simp
        refine(Z50 HE.fd o.fd ((P:Int)+(sl:Int))).mono ?_
        rintro e w6 ⟨rfl,R5,s6⟩
        try go_wp2_with fail
        refine hK.out _ _ (hHeld.trans s6) (fun hHeld=>?_)
        clear hK K
        try simp only [z]
        refine wpAnyH_done (by kernel_rfl) ?_ _
        go_wp2_with fail
        go_meet
        exact⟨R5,hHeld⟩
       case rest=>
        obtain⟨R5,s5⟩:=hcut
        have H5:=HD.tab R5 s5
        have kr:Stp U _ _:=s33.mono (fun x e=> .inl ((hUU x).2 (.inr (.inr (.inl e)))))
        have k5:Stp U _ _:=s5.mono (fun x e=> .inl ((hUU x).2 (.inr (.inl e))))
        have k7:=kr.trans k5
        have r2d:=r2w.step k7 (fun e=>by have:=hU g2 e;omega)
        have r1d:=r1x.step s5 nf1
        clear c17
        have c17:_=some (Value.slice (some ⟨bs,os,none⟩) sl sc):=r1d.cell 7 _ rfl
        have GD:Dx wc (fun x=>x=y∨x=fb∨x=r∨(A x∨x=gc)) y ((Z.dat (ki:Int) (wrB dd P o.d)).fds (Z0f Z.t o.fd ((P:Int)+(sl:Int)))):=⟨fb,r,c,_,_,_,_,H5,fun x=>Iff.rfl⟩
        have kw:=(Stp.of_below Bw U).trans k7
        have lgc:=k7.size
        go_upto_region 35 with fail
        go_cut [] (fun wx=>Cs wx g2 (anC 0 (sl:Int) nilV nilV 0 0 0)∧Stp (fun x=>x=g2) wc wx)
        case first=>
         go_wp2_with (first
          | (refine Z03 (by rfl) _ _ (by rfl) g2 (by rfl) (anC 0 (sl:Int) nilV nilV 0 0 0) 0 (Z1y _) (by rfl) _ r2d rfl ?_;intro w9 r9 s9))
         go_meet
         exact⟨r9,s9⟩
        case rest=>
         obtain⟨r9,s9⟩:=hcut
         rw [← hdd.out]at GD
         refine ‹∀ (a:Act) (w:World),Code.wp Tryz.prog Code.ret _ a w→_› _ _ ?_
         have hfin:RetY (.returned (.agg (anC 0 (sl:Int) nilV nilV 0 0 0).toArray)) U y ((Z.dat (ki:Int) (wrB (Z.nd (ki:Int)).d P o.d)).fds (Z0f Z.t o.fd ((P:Int)+(sl:Int)))) 0 w wc:=by
          refine⟨_,rfl,Z1y _,_,GD.step s9 (fun x hx e=>?_),kw.next s9 (fun x e=> .inr (by omega)),fun x hx=>?_⟩
          · rcases hx with d | d | d | d | d
            · have:=hU x ((hUU x).2 (.inl d));omega
            · have:=hU x ((hUU x).2 (.inr (.inl d)));omega
            · have:=hU x ((hUU x).2 (.inr (.inr (.inl d))));omega
            · have:=hU x ((hUU x).2 (.inr (.inr (.inr d))));omega
            · omega
          · rcases hx with d | d | d | d | d
            · exact .inl ((hUU x).2 (.inl d))
            · exact .inl ((hUU x).2 (.inr (.inl d)))
            · exact .inl ((hUU x).2 (.inr (.inr (.inl d))))
            · exact .inl ((hUU x).2 (.inr (.inr (.inr d))))
            · have:=s9.size;exact .inr ⟨by omega,by omega⟩
         refine wp_ret ?_
         show bodyPost Tryz.prog Tryz.f30 (fun e w'=>RetY e U y ((Z.dat (ki:Int) (wrB (Z.nd (ki:Int)).d P o.d)).fds (Z0f Z.t o.fd ((P:Int)+(sl:Int)))) 0 w w') Exit.ret _ _
         exact bodyPost_ret (Z0a Z06 Tryz.results30 rfl r9 rfl) rfl hfin
set_option maxRecDepth 100000
section
variable {w : World} {U : Nat → Prop} {y n : Nat} {Z : Tz}
theorem Za4 (h:Dx w U y Z) (hz:Z.ok n) (hn:n≤900) (o:Oz) (ho:o.wfo) (s:Sv) (hk:o.k=14):
 Calls Tryz.prog 30 #[.pointer (some ⟨y,0,none⟩), .agg (opC o s).toArray] w fun e w'=>RetY e U y Z (Z04 Z.t o.fd) w w':=by
 rcases Z1q Z.t o.fd with h0 | h0
 · rw [h0];exact Zez h hz hn o s ho hk h0
 · rw [h0];exact fd_e h hz hn o s ho h0
theorem Za2 (h:Dx w U y Z) (hz:Z.ok n) (hn:n≤900) (o:Oz) (ho:o.wfo) (s:Sv) (hk:o.k=2):
 Calls Tryz.prog 30 #[.pointer (some ⟨y,0,none⟩), .agg (opC o s).toArray] w fun e w'=>RetY e U y (if Z04 Z.t o.fd=0 then Z.clS o else Z) (Z04 Z.t o.fd) w w':=by
 rcases Z1q Z.t o.fd with h0 | h0
 · rw [h0,if_pos rfl]
   obtain⟨f,f1,f2,f3,f4,f5,f6,f7⟩:=Z1m hz h0
   have hi:=Z18 hz (i:=f.i) (by rw [f3];decide)
   refine Zgc h hz hn o s ho hk h0 (i:=f.i) (show(Z01 Z.t o.fd).i=f.i by rw [f2]) ?_
   intro U' w' h'
   unfold Tz.clS
   rw [f2]
   exact Z72 h' hi
 · rw [h0,if_neg (by decide)];exact fd_e h hz hn o s ho h0
theorem Zbe (h:Dx w U y Z) (hz:Z.ok n) (hn:n≤900) (o:Oz) (ho:o.wfo) (s:Sv) (hk:o.k=5):
 Calls Tryz.prog 30 #[.pointer (some ⟨y,0,none⟩), .agg (opC o s).toArray] w fun e w'=>RetY e U y (if Z.skE o=0 then Z.skS o else Z) (Z.skE o) w w':=by
 rcases Z1q Z.t o.fd with h0 | h0
 · by_cases h1:o.off < 0
   · have e1:Z.skE o=2:=by unfold Tz.skE;rw [if_pos h0,if_pos (.inl h1)]
     rw [e1,if_neg (by decide)]
     exact Zgm h hz hn o s ho hk h0 h1
   · by_cases h2:48640 < o.off
     · have e1:Z.skE o=2:=by unfold Tz.skE;rw [if_pos h0,if_pos (.inr h2)]
       rw [e1,if_neg (by decide)]
       exact Zgn h hz hn o s ho hk h0 h1 h2
     · have e1:Z.skE o=0:=by unfold Tz.skE;rw [if_pos h0,if_neg (by omega)]
       rw [e1,if_pos rfl]
       exact Zgo h hz hn o s ho hk h0 h1 h2
 · have e1:Z.skE o=46:=by unfold Tz.skE;rw [if_neg (by rw [h0];decide)]
   rw [e1,if_neg (by decide)]
   exact fd_e h hz hn o s ho h0
theorem Zbd (h:Dx w U y Z) (hz:Z.ok n) (hn:n≤900) (o:Oz) (ho:o.wfo) (s:Sv) (hk:o.k=3):
 Calls Tryz.prog 30 #[.pointer (some ⟨y,0,none⟩), .agg (opC o s).toArray] w fun e w'=>RetY e U y (if Z.reE o=0 then Z.reS o else Z) (Z.reE o) w w':=by
 rcases Z1q Z.t o.fd with h0 | h0
 · obtain⟨f,f1,f2,f3,f4,f5,f6,f7⟩:=Z1m hz h0
   have hi:=Z18 hz (i:=f.i) (by rw [f3];decide)
   have hM:Hid ((Z01 Z.t o.fd).m=f.m):=by show _=_;rw [f2]
   by_cases h1:f.m % 2=0
   · have e1:Z.reE o=50:=by unfold Tz.reE;rw [if_pos h0,f2,if_pos h1]
     rw [e1,if_neg (by decide)]
     exact Zgf h hz hn o s ho hk h0 hM (by omega) h1
   · by_cases h2:o.n < 0
     · have e1:Z.reE o=2:=by unfold Tz.reE;rw [if_pos h0,f2,if_neg h1,if_pos (.inl h2)]
       rw [e1,if_neg (by decide)]
       exact Zgd h hz hn o s ho hk h0 hM (by omega) h1 h2
     · by_cases h3:4096 < o.n
       · have e1:Z.reE o=2:=by unfold Tz.reE;rw [if_pos h0,f2,if_neg h1,if_pos (.inr h3)]
         rw [e1,if_neg (by decide)]
         exact Zge h hz hn o s ho hk h0 hM (by omega) h1 h2 h3
       · have e1:Z.reE o=0:=by unfold Tz.reE;rw [if_pos h0,f2,if_neg h1,if_neg (by omega)]
         rw [e1,if_pos rfl]
         unfold Tz.reS
         have ei:((f.i.toNat:Nat):Int)=f.i:=by omega
         exact Zgg h hz hn o s ho hk h0 hM (by omega) h1 (i:=f.i) (ki:=f.i.toNat) (P:=f.p.toNat) (K:=o.n.toNat) (show(Z01 Z.t o.fd).i=((f.i.toNat:Nat):Int) by rw [f2,ei]) hi.2 (show(Z01 Z.t o.fd).p=((f.p.toNat:Nat):Int) by rw [f2];omega) (by omega) (show o.n=((o.n.toNat:Nat):Int) by omega) (by omega) (by rw [ei];exact hz.dl _) rfl
 · have e1:Z.reE o=46:=by unfold Tz.reE;rw [if_neg (by rw [h0];decide)]
   rw [e1,if_neg (by decide)]
   exact fd_e h hz hn o s ho h0
theorem Za9 (h:Dx w U y Z) (hz:Z.ok n) (hn:n≤900) (o:Oz) (ho:o.wfo) (s:Sv) (hs:BsS w s o.d) (he:InE (fun z=>¬U z) s) (hk:o.k=4):
 Calls Tryz.prog 30 #[.pointer (some ⟨y,0,none⟩), .agg (opC o s).toArray] w fun e w'=>RetY e U y (if Z.wrE o=0 then Z.wrS o else Z) (Z.wrE o) w w':=by
 rcases Z1q Z.t o.fd with h0 | h0
 · obtain⟨f,f1,f2,f3,f4,f5,f6,f7⟩:=Z1m hz h0
   have hi:=Z18 hz (i:=f.i) (by rw [f3];decide)
   have hM:Hid ((Z01 Z.t o.fd).m=f.m):=by show _=_;rw [f2]
   have hP:Hid ((Z01 Z.t o.fd).p=((f.p.toNat:Nat):Int)):=by show _=_;rw [f2];omega
   have hPb:f.p.toNat≤48640:=by omega
   have hln:=hs.len
   have hcp:=hs.cap
   have hle:=hs.le
   unfold maxLen at hcp
   obtain⟨sa,sl,sc⟩:=s
   simp only at hln hcp hle
   by_cases h1:f.m < 2
   · have e1:Z.wrE o=50:=by unfold Tz.wrE;rw [if_pos h0,f2,if_pos h1]
     rw [e1,if_neg (by decide)]
     exact Zgk h hz hn o hk h0 hM hP hPb (by omega) h1
   · by_cases h2:4096 < o.d.length
     · have e1:Z.wrE o=2:=by unfold Tz.wrE;rw [if_pos h0,f2,if_neg h1,if_pos h2]
       rw [e1,if_neg (by decide)]
       exact Zgi h hz hn o hk h0 hM hP hPb (by omega) h1 (by omega)
     · by_cases h3:48640 < f.p+o.d.length
       · have e1:Z.wrE o=31:=by unfold Tz.wrE;rw [if_pos h0,f2,if_neg h1,if_neg h2,if_pos h3]
         rw [e1,if_neg (by decide)]
         exact Zgj h hz hn o hk h0 hM hP hPb (by omega) h1 (by omega)
       · have e1:Z.wrE o=0:=by unfold Tz.wrE;rw [if_pos h0,f2,if_neg h1,if_neg h2,if_neg h3]
         rw [e1,if_pos rfl]
         unfold Tz.wrS
         by_cases h4:o.d= []
         · rw [if_pos h4]
           exact Zgh h hz hn o hk h0 hM hP hPb (by omega) h1 (by rw [← hln,h4];rfl)
         · rw [if_neg h4,f2]
           have h4l:0 < o.d.length:=List.length_pos_iff.2 h4
           have ei:((f.i.toNat:Nat):Int)=f.i:=by omega
           have:=Zgl h hz hn o hs he hk h0 hM hP hPb (by omega) h1 (by omega) (by omega) (ki:=f.i.toNat) (show(Z01 Z.t o.fd).i=((f.i.toNat:Nat):Int) by rw [f2,ei]) hi.2 (by rw [ei];exact hz.dl _) (by rw [ei];exact hz.db _)
           rw [ei,show((f.p.toNat:Nat):Int)+(sl:Int)=f.p+(o.d.length:Int) by omega]at this
           exact this
 · have e1:Z.wrE o=46:=by unfold Tz.wrE;rw [if_neg (by rw [h0];decide)]
   rw [e1,if_neg (by decide)]
   exact fd_e h hz hn o s ho h0
end
end Go.Proofs.YtdnjddpfcgginaaGreat
