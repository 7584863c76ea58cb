/-
  Texts of my own, joined: no statement is proved here.
-/
import Derived.Deep.CutBlock
import Derived.Deep.DeepCutAuto
import Derived.Test.YtdnjddpfcgginaaGreatKao
set_option linter.unusedSimpArgs false
set_option linter.unusedVariables false
namespace Go.Proofs.YtdnjddpfcgginaaGreat
open Go.ChangeShapes Go.WideShapes Go.ChangeAt Go.RowKit
set_option maxRecDepth 100000
set_option maxHeartbeats 4000000 in
theorem Zci {w:World} {U:Nat→Prop} {g B n:Nat} {q:Int→Nat} {Z:Tz} (h:Tx w U g q B Z) (hz:Z.ok n) (hn:n≤900) (hB:B≤900) {i:Int} (hk:(Z.nd i).k≠0):
 Calls Tryz.prog 14 #[.pointer (some ⟨g,0,none⟩), .int .i64 i] w fun e w'=>RetN e (Z.nd i) w w':=by
 have hR:=fun w' (b:Below w.heap.size w w')=>Z6d (h.later b) hz (show B≤1000 by omega) hk
 have hwf:=Z13 hz (show n+2≤1000 by omega) hk
 have hdl:=hz.dl i
 have hdb:=hz.db i
 have hfi:=hz.fi i
 have hso:=hz.so i
 have hnw:=hz.nw i
 have hnl:=hz.nl i
 have hkd:=hz.kd i
 obtain⟨tg,mb,ob,nb,sv,H,hU⟩:=h
 obtain⟨x,hxe⟩:∃ x,Z.nd i=x:=⟨_,rfl⟩
 have n0:=H.n0 hk
 have hne:Hid (Z.nd i=x):=hxe
 have c0:=H.c0
 have qlt:=(H.nd i hk).2.lt
 have hE:(if x.k=0 then(5:Int)else 0)=0:=if_neg (by rw [← hxe];exact hk)
 go_enter Tryz.func14,Tryz.ntmps14
 go_wp2_with (first
  | (refine Z1i 48 4 _ Z1d (by rfl) (by rfl) ?_;intro gr w1 z1 z2 r1 b1
     have H1:=H.later b1
     clear c0
     have c0:=H1.c0
     have lo:=H1.look hk hwf))
 go_cut [7] (fun u wx=>∃ gt s1,u= .pointer (some ⟨gt,0,none⟩)∧Cs wx gt (tnC x s1 (.slice none 0 0))∧OwD wx s1.v x.d∧(∀ r,s1.v.ownBlock=some r→w1.heap.size≤r∧r≠gt)∧w1.heap.size≤gt∧Below w1.heap.size w1 wx)
 case first=>
  refine wp_region_held_drew (S:=fun u=>Below w1.heap.size w1 u) (by kernel_rfl) (Below.refl _ _).drew (fun hHeld=>?_)
  refine tl 0 (.pointer (some ⟨q i,0,none⟩)) rfl ?_
  try simp only [z]
  refine tl 1 (.pointer (some ⟨q i,0,none⟩)) rfl ?_
  try simp only [z]
  refine tl 2 (.pointer (some ⟨q i,0,none⟩)) rfl ?_
  try simp only [z]
  refine tl 3 (.int .i64 x.k) rfl ?_ (fun u hu=>by have x1:=(H1.later hu).n0 hk;rw [hne.out]at x1;go_simp)
  try simp only [z]
  refine tl 4 (.pointer (some ⟨q i,0,none⟩)) rfl ?_
  try simp only [z]
  refine tl 5 (.pointer (some ⟨q i,0,none⟩)) rfl ?_
  try simp only [z]
  refine tl 6 (.pointer (some ⟨q i,1,none⟩)) rfl ?_
  try simp only [z]
  refine tl 7 (.int .i64 x.ln) rfl ?_ (fun u hu=>by have x1:=(H1.later hu).n1 hk;rw [hne.out]at x1;go_simp)
  try simp only [z]
  refine tl 8 (.pointer (some ⟨q i,0,none⟩)) rfl ?_
  try simp only [z]
  refine tl 9 (.pointer (some ⟨q i,0,none⟩)) rfl ?_
  try simp only [z]
  refine tl 10 (.pointer (some ⟨q i,2,none⟩)) rfl ?_
  try simp only [z]
  refine tl 11 (.slice (sv i).a (sv i).n (sv i).c) rfl ?_ (fun u hu=>by have x1:=(H1.later hu).n2 hk;go_simp)
  try simp only [z]
  refine wpAnyH_ready (rs:= [12,14]) (by kernel_rfl) (by simp) ?_
  refine(AllReadyH.cons (o:=⟨some 34, .call { callee:=Callee.value (.func 37),args:=#[.tmp 33],argTypes:=#[29]},29,_,#[⟨11, .data⟩],none⟩) rfl (fun K hK=>?_) (AllReadyH.cons (o:=⟨some 7, .alloc 48,0,_,#[],none⟩) rfl (fun K hK=>?_) AllReadyH.nil))
  · skip
    go_simp
    refine(Z3n (OwD.bsS ((H1.later hHeld).dt i hk).1 hdb).2.1 (by omega)).mono ?_
    rintro e wS ⟨s1,rfl,oD,nD,hl,bS⟩
    rw [hne.out]at oD
    try go_wp2_with fail
    have nD1:∀ r,s1.v.ownBlock=some r→w1.heap.size≤r:=fun r hr=>Nat.le_trans hHeld.size (nD r hr)
    try (have ng:∀ r,s1.v.ownBlock=some r→r≠gt:=fun r hr=>by have:=nD r hr;omega)
    try (have p6:=p6.later bS)
    refine hK.out _ _ (Z00q hHeld bS (Nat.le_refl _)) (fun hHeld=>?_)
    clear hK K
    try simp only [z]
    refine tl 13 (.agg #[.int .i64 x.k, .int .i64 x.ln, .slice s1.a s1.n s1.c, .slice none 0 0]) rfl ?_
    try simp only [z]
    refine rd 14 rfl (fun K hK=>?_)
    have zH:=hHeld.size
    refine Z0t 48 4 _ Z1d rfl (by rfl) ?_
    intro gt w10 y6 y7 p6 b10
    have m6:w1.heap.size≤gt:=by omega
    try (have ng:∀ r,s1.v.ownBlock=some r→r≠gt:=fun r hr=>by have:=(oD.lt r hr).2;omega)
    try (have oD:=oD.later b10)
    refine hK.out _ _ (Z00q hHeld b10 (Nat.le_refl _)) (fun hHeld=>?_)
    clear hK K
    try simp only [z]
    refine rd 15 rfl (fun K hK=>?_)
    refine Z0n 48 4 _ Z1d rfl _ _ (by rfl) gt (by rfl) (tnC x s1 (.slice none 0 0)) (by rfl) rfl (Z27 _ _ rfl) _ p6 rfl ?_
    intro w11 p11 s11
    have oD:=oD.step s11 ng
    refine hK.out _ _ (((Stp.of_below hHeld (fun _=>False)).next s11 (fun x e=> .inr (by omega))).below (Nat.le_refl _) (fun _ h=>h.elim)) (fun hHeld=>?_)
    clear hK K
    try simp only [Act.put]
    refine wpAnyH_done (by kernel_rfl) ?_ _
    go_wp2_with fail
    go_meet
    exact⟨gt,s1,rfl,p11,oD,fun r hr=>⟨nD1 r hr,ng r hr⟩,m6,hHeld⟩
  · skip
    have zH:=hHeld.size
    refine Z0t 48 4 _ Z1d rfl (by rfl) ?_
    intro gt w10 y6 y7 p6 b10
    have m6:w1.heap.size≤gt:=by omega
    try (have ng:∀ r,s1.v.ownBlock=some r→r≠gt:=fun r hr=>by have:=(oD.lt r hr).2;omega)
    try (have oD:=oD.later b10)
    refine hK.out _ _ (Z00q hHeld b10 (Nat.le_refl _)) (fun hHeld=>?_)
    clear hK K
    try simp only [z]
    refine rd 12 rfl (fun K hK=>?_)
    go_simp
    refine(Z3n (OwD.bsS ((H1.later hHeld).dt i hk).1 hdb).2.1 (by omega)).mono ?_
    rintro e wS ⟨s1,rfl,oD,nD,hl,bS⟩
    rw [hne.out]at oD
    try go_wp2_with fail
    have nD1:∀ r,s1.v.ownBlock=some r→w1.heap.size≤r:=fun r hr=>Nat.le_trans hHeld.size (nD r hr)
    try (have ng:∀ r,s1.v.ownBlock=some r→r≠gt:=fun r hr=>by have:=nD r hr;omega)
    try (have p6:=p6.later bS)
    refine hK.out _ _ (Z00q hHeld bS (Nat.le_refl _)) (fun hHeld=>?_)
    clear hK K
    try simp only [z]
    refine tl 13 (.agg #[.int .i64 x.k, .int .i64 x.ln, .slice s1.a s1.n s1.c, .slice none 0 0]) rfl ?_
    try simp only [z]
    refine rd 15 rfl (fun K hK=>?_)
    refine Z0n 48 4 _ Z1d rfl _ _ (by rfl) gt (by rfl) (tnC x s1 (.slice none 0 0)) (by rfl) rfl (Z27 _ _ rfl) _ p6 rfl ?_
    intro w11 p11 s11
    have oD:=oD.step s11 ng
    refine hK.out _ _ (((Stp.of_below hHeld (fun _=>False)).next s11 (fun x e=> .inr (by omega))).below (Nat.le_refl _) (fun _ h=>h.elim)) (fun hHeld=>?_)
    clear hK K
    try simp only [Act.put]
    refine wpAnyH_done (by kernel_rfl) ?_ _
    go_wp2_with fail
    go_meet
    exact⟨gt,s1,rfl,p11,oD,fun r hr=>⟨nD1 r hr,ng r hr⟩,m6,hHeld⟩
 case rest=>
  obtain⟨gt,s1,rfl,r7,oD,hnD,mt,b7⟩:=hcut
  have B7:=Z00q b1 b7 (Nat.le_refl _)
  have r17:=r1.later b7
  have z7:=b7.size
  have lt7:=r7.lt
  have lr:=r1.lt
  go_wp2_with (first
   | (go_at_call 41;refine(hR _ B7).mono ?_;clear hR;rintro e w8 ⟨v8,rfl,o8,b8⟩
      obtain⟨a5,c5,rfl,hS,hA⟩:=o8.shape))
  rw [hne.out]at hS
  have hLn:(x.nm.map (·.s)).length=x.nm.length:=List.length_map ..
  rw [hne.out]at hdl hdb hfi hso hnw hnl hkd
  have B8:=Z00q B7 b8 (Nat.le_refl _)
  have r8:=r7.later b8
  have r18:=r17.later b8
  have oD8:=oD.later b8
  have z8:=b8.size
  have lt8:gt < w8.heap.size:=by omega
  have H8:=H.later B8
  have hSc:=hS.cell
  have hcap:(x.nm.map (·.s)).length≤c5:=hS.le
  go_loopw [39] (fun iv wr=>∃ j:Nat,iv= .int .i64 (j:Int)∧j≤x.nm.length∧(∃ v,Cs wr gt (tnC x s1 v)∧OwN w8.heap.size wr v (x.nm.take j))∧Stp (fun z=>z=gt) w8 wr) (fun iv _=>x.nm.length - (intOf iv).toNat)
  case atStart=>exact⟨0,rfl,Nat.zero_le _,⟨_,r8,⟨rfl, .inl ⟨rfl,rfl⟩⟩,fun r e=>by cases e⟩,Stp.refl _ _⟩
  case round=>
   obtain⟨j,rfl,hj,⟨v,r9,o9⟩,k9⟩:=hrel
   have k9w:∀ y,y < wc.heap.size→¬y=gt→∀ c u,w8.cell? ⟨y,c,none⟩=some u→wr.cell? ⟨y,c,none⟩=some u:=fun y _ hy c u hc=>k9.cell hc hy
   by_cases hlt:j < x.nm.length
   · obtain⟨b5,o5,rfl,hcs⟩:=hSc (by omega)
     have h5:∀ ad:Addr,some (⟨b5,o5,none⟩:Addr)=some ad→wc.heap.size≤ad.block:=hA
     have n5:¬b5=gt:=by have:=h5 _ rfl;show ¬_=_;simp only at this;omega
     have e5:=hcs j (by omega)
     have ej:(x.nm.map (·.s)).getD j []=(x.nm.getD j Ent.zero).s:=by
      rw [List.getD_eq_getElem?_getD,List.getD_eq_getElem?_getD,List.getElem?_map,List.getElem?_eq_getElem hlt];rfl
     rw [ej]at e5
     have hmem:x.nm.getD j Ent.zero ∈ x.nm:=by
      rw [List.getD_eq_getElem?_getD,List.getElem?_eq_getElem hlt];exact List.getElem_mem hlt
     have hlk:=Zd8 hso hmem
     have hnm:=(hnw _ hmem).1
     have hk2:x.k=2:=by
      rcases hkd with e | e | e
      · exact absurd (by rw [hne.out];exact e) hk
      · rw [hfi e]at hlt;exact absurd hlt (Nat.not_lt_zero _)
      · exact e
     have hk2':(Z.nd i).k=2:=by rw [hne.out];exact hk2
     have htk:x.nm.take (j+1)=x.nm.take j++ [x.nm.getD j Ent.zero]:=by
      rw [List.take_succ_eq_append_getElem hlt,List.getD_eq_getElem?_getD,List.getElem?_eq_getElem hlt];rfl
     obtain⟨en,hen⟩:∃ en,x.nm.getD j Ent.zero=en:=⟨_,rfl⟩
     rw [hen]at e5 hlk hnm htk
     have hsl:en.s.length≤maxLen:=by have:=(Z3i hnm).2.2;unfold maxLen;omega
     have e9:=k9.cell e5 n5
     have Hr:=H8.step k9 (fun y hy e=>by have:=H.low y hy;have:=B8.size;omega)
     have a9:(j:Int) < ((x.nm.map (·.s)).length:Int):=by omega
     have a8:(0:Int)≤(j:Int):=by omega
     have zk:=k9.size
     go_upto_region 10 with fail
     refine Z0p (S:=fun u=>Stp (fun z=>w8.heap.size≤z) wr u) _ _ (by simp only [List.pop_toArray,List.dropLast_cons_cons,List.dropLast_singleton];rfl) (by simp only [List.back?_toArray,List.getLast?_cons_cons,List.getLast?_singleton];rfl) (by kernel_rfl) (by kernel_rfl) (Stp.refl _ _).drew (fun hHeld=>?_)
     have hv1:=o9.one
     have n8:∀ y,y < w8.heap.size→¬w8.heap.size≤y:=fun y hy=>by omega
     have HT:∀ u,Stp (fun z=>w8.heap.size≤z) wr u→Tw u tg g mb ob q nb sv B Z:=fun u hu=>Hr.step hu (fun y hy e=>by have:=H.low y hy;have:=B8.size;omega)
     refine tl 0 (.pointer (some ⟨gt,3,none⟩)) rfl ?_
     try simp only [z]
     refine tl 1 v rfl ?_ (fun u hu=>by have x1:=hu.cell (r9.cell 3 _ rfl) (n8 _ lt8);go_simp)
     try simp only [z]
     refine tl 2 (.pointer (some ⟨q i,0,none⟩)) rfl ?_
     try simp only [z]
     refine tl 3 (.pointer (some ⟨q i,0,none⟩)) rfl ?_
     try simp only [z]
     refine tl 4 (.pointer (some ⟨q i,3,none⟩)) rfl ?_
     try simp only [z]
     refine tl 5 (.map (some (nb i))) rfl ?_ (fun u hu=>by have x1:=(HT u hu).n3 hk2';go_simp)
     try simp only [z]
     refine tl 6 (.string (str en.s)) rfl ?_
     try simp only [z]
     refine tl 7 (.int .i64 en.n) rfl ?_ (fun u hu=>by have x1:=((HT u hu).nm i hk2').2.look hsl;rw [hne.out,hlk]at x1;go_simp)
     try simp only [z]
     refine tl 8 (.string (str en.s)) rfl ?_
     try simp only [z]
     refine tl 9 (.agg #[.int .i64 en.n, .string (str en.s)]) rfl ?_
     try simp only [z]
     refine rd 10 rfl (fun K hK=>?_)
     refine Zbm rfl _ (by rfl) en (by rfl) ?_
     intro g2 w11 z11 c11 b11
     have o11:=(o9.later (show Below wr.heap.size wr wr.drew from(Below.refl _ _).drew)).later b11
     refine hK.out _ _ (hHeld.next (Stp.of_below b11 (fun _=>False)) (fun x e=>e.elim)) (fun hHeld=>?_)
     clear hK K
     try simp only [z]
     refine rd 11 rfl (fun K hK=>?_)
     refine Zaa (B:=w8.heap.size) rfl _ _ (by rfl) (by rfl) o11 g2 en (by rfl) c11 (by simp;omega) (by have:=hHeld.size;omega) ?_
     intro v12 w12 o12 k12
     refine hK.out _ _ (hHeld.trans k12) (fun hHeld=>?_)
     clear hK K
     try simp only [z]
     refine tl 12 (.pointer (some ⟨gt,3,none⟩)) rfl ?_
     try simp only [z]
     refine wpAnyH_done (by kernel_rfl) ?_ _
     show wpList _ _ _ [_] _ _
     have r12:=r9.step hHeld (n8 _ lt8)
     have f12:=r12.frozen 3
     have c12:=r12.cell 3 _ rfl
     rw [← htk]at o12
     obtain⟨av,nv,cv,rfl⟩:=o12.shape
     have oH:Hid (OwN w8.heap.size w12 (.slice av nv cv) (x.nm.take (j+1))):=o12
     clear o12
     go_wp2_with fail
     have k13:Stp (fun z=>z=gt) w12 (w12.setCell ⟨gt,3,none⟩ (.slice av nv cv)):=(Stp.refl (fun z=>z=gt) w12).setCell (p:=⟨gt,3,none⟩) (.inl rfl) _
     go_roundw
     case rel=>exact⟨j+1,by go_num,by omega,⟨_,r12.set 3 (.slice av nv cv) oH.out.one,⟨Z4j oH.out.1 k13 (fun r hr e=>by have:=oH.out.2 r hr;omega),oH.out.2⟩⟩,(k9.next hHeld (fun z e=> .inr e)).next k13 (fun z e=> .inl e)⟩
     case measure=>simp [intOf];omega
   · obtain rfl:j=x.nm.length:=by omega
     have a9:¬(x.nm.length:Int) < ((x.nm.map (·.s)).length:Int):=by omega
     rw [List.take_length]at o9
     obtain⟨s2,rfl,h2,es2,i2⟩:=o9.1.es o9.2
     have r19:=r18.step k9 (fun e=>by omega)
     have lr8:=B8.size
     have oD9:=oD8.step k9 (fun r hr=>(hnD r hr).2)
     have bS:=(OwD.bsS oD9 hdb).2.1
     go_wp2_with (first
      | (refine Z0k 48 4 _ Z1d (by rfl) _ (by rfl) gt (by rfl) _ r9 rfl ?_)
      | (refine Z1e 48 4 _ Z1d (by rfl) _ _ (by rfl) gr (by rfl) (tnC x s1 s2.v) (by rfl) rfl (Z27 _ _ rfl) _ r19 rfl ?_;intro w13 r13 s13))
     have zs:=k9.size
     have q1:BsS w13 s1 x.d:=BsS.step (E:=fun z=>z≠gr) bS s13 (fun ad e _=>by have:=(hnD ad.block (by show Value.ownBlock (.slice s1.a _ _)=_;rw [e];rfl)).1;show ad.block≠gr;omega) (fun z e=>e)
     have q2:EsS w13 s2 x.nm:=es2.step s13 i2 (fun z e c=>by omega)
     exact bodyPost_ret (Z0d Z1d Tryz.results14 rfl rfl r13 rfl) rfl ⟨s1,s2,by rw [hE];rfl,q1,q2,(((Stp.of_below B8 (fun _=>False)).next k9 (fun z e=> .inr (by omega))).next s13 (fun z e=> .inr (by omega))).below (Nat.le_refl _) (fun z e=>e.elim)⟩
theorem Z4x {w:World} {U:Nat→Prop} {g B n:Nat} {q:Int→Nat} {Z:Tz} (h:Tx w U g q B Z) (hz:Z.ok n) (hn:n≤900) (hB:B≤900) {i:Int} (hi:wfi i):
 Calls Tryz.prog 14 #[.pointer (some ⟨g,0,none⟩), .int .i64 i] w fun e w'=>RetN e (Z.nd i) w w':=by
 by_cases hk:(Z.nd i).k=0
 · exact Ze5 h hz hi hk
 · exact Zci h hz hn hB hk
set_option maxRecDepth 100000
set_option maxHeartbeats 8000000 in
theorem Zbc {w:World} {y r c N k:Nat} {s:Sv} {l:List Ent} {t:List UInt8} {id:Int} (c0:w.cell? ⟨y,0,none⟩=some (.slice (some ⟨r,0,none⟩) N c)) (hk:k < N) (c3:w.cell? ⟨r,k * 4+3,none⟩=some s.v) (f3:w.frozen? ⟨r,k * 4+3,none⟩=false) (hS:EsS w s l) (hl:Srd l) (hb:l.length≤1000):
 Calls Tryz.prog 75 #[.pointer (some ⟨y,0,none⟩), .int .i64 (k:Int), .string (str t), .int .i64 id] w fun e w'=>e= .returned (.tuple #[])∧∃ v w2,OwN w.heap.size w2 v (ptL l t id)∧Below w.heap.size w w2∧w'=w2.setCell ⟨r,k * 4+3,none⟩ v:=by
 obtain⟨a,n,cc⟩:=s
 have hln:=hS.len
 simp only at hln
 subst hln
 have hc:Hid (0 < l.length→∃ b,a=some ⟨b,0,none⟩∧∀ i,i < l.length→w.cell? ⟨b,i * 2,none⟩=some (.int .i64 (l.getD i Ent.zero).n)∧w.cell? ⟨b,i * 2+1,none⟩=some (.string (str (l.getD i Ent.zero).s))):=hS.cell
 have a1:(0:Int)≤(k:Int):=by omega
 have a2:(k:Int) < (N:Int):=by omega
 obtain⟨R,hR⟩:∃ R,Hid (ptL l t id=R):=⟨_,rfl⟩
 rw [hR.out]
 have c3':w.cell? ⟨r,k * 4+3,none⟩=some (.slice a l.length cc):=c3
 have lr:r < w.heap.size:=World.block_lt_of_cell? w _ c3
 have hlH:Hid (Srd l):=hl
 clear hS c3 hl
 have tY:=Z17 t
 have tk:True:=trivial
 go_enter Tryz.func75,Tryz.ntmps75
 go_wp2_with (refine Zc0 (B:=w.heap.size) (by rfl) (by rfl) (Nat.le_refl _) ?_;clear tk;intro g0 w0 o0 b0
              have d0:=(Stp.of_below b0 (fun _=>False)).cell c0 (fun e=>e)
              have d3:=(Stp.of_below b0 (fun _=>False)).cell c3' (fun e=>e))
 go_loopw [8,10] (fun ov iv wr=>∃ i:Nat,iv= .int .i64 (i:Int)∧i≤l.length∧OwN w.heap.size wr ov (l.take i)∧Below w.heap.size w wr∧Hid (l.take i++ptL (l.drop i) t id=R)) (fun _ iv _=>l.length - (intOf iv).toNat)
 case atStart=>exact⟨0,rfl,Nat.zero_le _,o0,b0,by show _=_;rw [List.drop_zero,List.take_zero];exact hR.out⟩
 case round=>
  obtain⟨i,rfl,hi,hO,hB,hQ⟩:=hrel
  by_cases hlt:i < l.length
  · have hQ2:=hQ.out
    have hsd:Srd (l.drop i):=Zcy hlH.out i
    rw [Z34 hlt]at hsd hQ2
    have htk:l.take (i+1)=l.take i++ [l.getD i Ent.zero]:=by
     rw [List.take_add_one,List.getElem?_eq_getElem hlt,List.getD_eq_getElem?_getD,List.getElem?_eq_getElem hlt];rfl
    clear hQ
    obtain⟨b,hab,hcs⟩:=hc.out (by omega)
    cases hab
    have k1:=(Stp.of_below hB (fun _=>False)).cell (hcs i hlt).1 (fun e=>e)
    have k2:=(Stp.of_below hB (fun _=>False)).cell (hcs i hlt).2 (fun e=>e)
    clear hcs
    have a9:(i:Int) < (l.length:Int):=by omega
    have a8:(0:Int)≤(i:Int):=by omega
    obtain⟨x,hx⟩:∃ x,Hid (l.getD i Ent.zero=x):=⟨_,rfl⟩
    rw [hx.out]at hsd hQ2 htk k1 k2
    have tX:=Z17 x.s
    by_cases hlx:ltB x.s t=true
    · have hQ3:Hid (l.take (i+1)++ptL (l.drop (i+1)) t id=R):=by
       show _=_
       rw [htk,← hQ2]
       conv=>rhs;unfold ptL
       rw [if_pos hlx];simp
      have htkH:Hid _:=htk
      have qlx:Go.Op.bytesLess x.s t=true:=hlx
      clear hQ2 htk hsd hlx
      go_wp2_with (first
       | (refine Z47 (by rfl) _ (by rfl) b (i * 2) (by rfl) x k1 k2 ?_)
       | (refine Z3d (by rfl) _ (by rfl) x (by rfl) ?_;intro g5 w5 z5 r5 b5
          have o5:=hO.later b5
          have B5:=Z00q hB b5 (Nat.le_refl _))
       | (refine Z2w (B:=w.heap.size) rfl _ _ (by rfl) (by rfl) o5 g5 x (by rfl) r5 (by first | omega | (simp;omega)) B5.size ?_;intro v6 w6 o6 s6
          have B6:=Z2i B5 s6))
      rw [← htkH.out]at o6
      go_roundw
      case rel=>exact⟨i+1,by go_num,by omega,o6,B6,hQ3⟩
      case measure=>simp [intOf];omega
    · have hlf:ltB x.s t=false:=by simpa using hlx
      have e1:=Zcr hsd hlf id
      rw [e1,← hx.out,← Z34 hlt]at hQ2
      have hQ4:Hid (l.take i++(ins0 t id++but t (l.drop i))=R):=hQ2
      have qlx:Go.Op.bytesLess x.s t=false:=hlf
      clear hQ2 htk hsd hlx hlf e1
      have hQ2:=hQ4
      clear hQ4
      by_cases h0:id=0
      · subst h0
        have hQ3:Hid (l.take i++but t (l.drop i)=R):=by have:=hQ2.out;unfold ins0 at this;rw [if_pos rfl,List.nil_append]at this;exact this
        clear hQ2
        go_wp2
        go_loopw [8,10] (fun ov iv wr=>∃ (i:Nat) (X:List Ent),iv= .int .i64 (i:Int)∧i≤l.length∧X.length≤i+1∧OwN w.heap.size wr ov X∧Below w.heap.size w wr∧Hid (X++but t (l.drop i)=R)) (fun _ iv _=>l.length - (intOf iv).toNat)
        case atStart=>exact⟨i,l.take i,(by first | rfl | rw [hil]),hi,by simp;omega,hO,hB,hQ3⟩
        case round=>
         clear hQ3
         obtain⟨i,X,rfl,hi,hX,hO,hB,hQ⟩:=hrel
         by_cases hlt:i < l.length
         · have hQ2:=hQ.out
           rw [Z34 hlt]at hQ2
           unfold but at hQ2
           clear hQ
           obtain⟨b,hab,hcs⟩:=hc.out (by omega)
           cases hab
           have k1:=(Stp.of_below hB (fun _=>False)).cell (hcs i hlt).1 (fun e=>e)
           have k2:=(Stp.of_below hB (fun _=>False)).cell (hcs i hlt).2 (fun e=>e)
           clear hcs
           generalize l.getD i Ent.zero=x at *
           have a9:(i:Int) < (l.length:Int):=by omega
           have a8:(0:Int)≤(i:Int):=by omega
           have tX:=Z17 x.s
           by_cases hx:x.s=t
           · rw [if_pos hx]at hQ2
             have hQ3:Hid _:=hQ2
             rw [hx]at k2
             clear hQ2 hx tX
             go_wp2
             go_roundw
             case rel=>exact⟨i+1,X,by go_num,by omega,by omega,hO,hB,hQ3⟩
             case measure=>simp [intOf];omega
           · rw [if_neg hx]at hQ2
             have hQ3:Hid ((X++ [x])++but t (l.drop (i+1))=R):=by show _=_;rw [← hQ2];simp
             have hxb:(x.s != t)=true:=by simpa using hx
             have hxc:(x.s==t)=false:=by simpa using hx
             clear hQ2 hx
             go_wp2_with (first
              | (refine Z47 (by rfl) _ (by rfl) b (i * 2) (by rfl) x k1 k2 ?_)
              | (refine Z3d (by rfl) _ (by rfl) x (by rfl) ?_;intro g5 w5 z5 r5 b5
                 have o5:=hO.later b5
                 have B5:=Z00q hB b5 (Nat.le_refl _))
              | (refine Z2w (B:=w.heap.size) rfl _ _ (by rfl) (by rfl) o5 g5 x (by rfl) r5 (by first | omega | (simp;omega)) B5.size ?_;intro v6 w6 o6 s6
                 have B6:=Z2i B5 s6))
             go_roundw
             case rel=>exact⟨i+1,X++ [x],by go_num,by omega,by simp;omega,o6,B6,hQ3⟩
             case measure=>simp [intOf];omega
         · obtain rfl:i=l.length:=by omega
           have hQ2:X=R:=by have:=hQ.out;rw [List.drop_length]at this;unfold but at this;rw [List.append_nil]at this;exact this
           subst hQ2
           obtain⟨va,vn,vc,rfl⟩:=hO.shape
           have e0:=(Stp.of_below hB (fun _=>False)).cell c0 (fun e=>e)
           have e3:=(Stp.of_below hB (fun _=>False)).cell c3' (fun e=>e)
           have g3:wr.frozen? ⟨r,k * 4+3,none⟩=false:=by rw [(Stp.of_below hB (fun _=>False)).frozen (p:=⟨r,k * 4+3,none⟩) lr (fun e=>e)];exact f3
           clear d0 d3 c0 c3' f3 hQ hc
           go_wp2
           go_returns
           exact⟨rfl,_,_,hO,hB,rfl⟩
      · have q0:(id != 0)=true:=by simpa using h0
        have hQ3:Hid ((l.take i++ [⟨id,t⟩])++but t (l.drop i)=R):=by have:=hQ2.out;unfold ins0 at this;rw [if_neg h0]at this;show _=_;rw [← this];simp
        clear hQ2
        go_wp2_with (first
         | (refine Z3d (by rfl) _ (by rfl) ⟨id,t⟩ (by rfl) ?_;intro g5 w5 z5 r5 b5
            have o5:=hO.later b5
            have B5:=Z00q hB b5 (Nat.le_refl _))
         | (refine Z2w (B:=w.heap.size) rfl _ _ (by rfl) (by rfl) o5 g5 ⟨id,t⟩ (by rfl) r5 (by first | omega | (simp;omega)) B5.size ?_;intro v6 w6 o6 s6
            have B6:=Z2i B5 s6))
        go_loopw [8,10] (fun ov iv wr=>∃ (i:Nat) (X:List Ent),iv= .int .i64 (i:Int)∧i≤l.length∧X.length≤i+1∧OwN w.heap.size wr ov X∧Below w.heap.size w wr∧Hid (X++but t (l.drop i)=R)) (fun _ iv _=>l.length - (intOf iv).toNat)
        case atStart=>exact⟨i,l.take i++ [⟨id,t⟩],(by first | rfl | rw [hil]),hi,by simp;omega,o6,B6,hQ3⟩
        case round=>
         clear hQ3
         obtain⟨i,X,rfl,hi,hX,hO,hB,hQ⟩:=hrel
         by_cases hlt:i < l.length
         · have hQ2:=hQ.out
           rw [Z34 hlt]at hQ2
           unfold but at hQ2
           clear hQ
           obtain⟨b,hab,hcs⟩:=hc.out (by omega)
           cases hab
           have k1:=(Stp.of_below hB (fun _=>False)).cell (hcs i hlt).1 (fun e=>e)
           have k2:=(Stp.of_below hB (fun _=>False)).cell (hcs i hlt).2 (fun e=>e)
           clear hcs
           generalize l.getD i Ent.zero=x at *
           have a9:(i:Int) < (l.length:Int):=by omega
           have a8:(0:Int)≤(i:Int):=by omega
           have tX:=Z17 x.s
           by_cases hx:x.s=t
           · rw [if_pos hx]at hQ2
             have hQ3:Hid _:=hQ2
             rw [hx]at k2
             clear hQ2 hx tX
             go_wp2
             go_roundw
             case rel=>exact⟨i+1,X,by go_num,by omega,by omega,hO,hB,hQ3⟩
             case measure=>simp [intOf];omega
           · rw [if_neg hx]at hQ2
             have hQ3:Hid ((X++ [x])++but t (l.drop (i+1))=R):=by show _=_;rw [← hQ2];simp
             have hxb:(x.s != t)=true:=by simpa using hx
             have hxc:(x.s==t)=false:=by simpa using hx
             clear hQ2 hx
             go_wp2_with (first
              | (refine Z47 (by rfl) _ (by rfl) b (i * 2) (by rfl) x k1 k2 ?_)
              | (refine Z3d (by rfl) _ (by rfl) x (by rfl) ?_;intro g5 w5 z5 r5 b5
                 have o5:=hO.later b5
                 have B5:=Z00q hB b5 (Nat.le_refl _))
              | (refine Z2w (B:=w.heap.size) rfl _ _ (by rfl) (by rfl) o5 g5 x (by rfl) r5 (by first | omega | (simp;omega)) B5.size ?_;intro v6 w6 o6 s6
                 have B6:=Z2i B5 s6))
             go_roundw
             case rel=>exact⟨i+1,X++ [x],by go_num,by omega,by simp;omega,o6,B6,hQ3⟩
             case measure=>simp [intOf];omega
         · obtain rfl:i=l.length:=by omega
           have hQ2:X=R:=by have:=hQ.out;rw [List.drop_length]at this;unfold but at this;rw [List.append_nil]at this;exact this
           subst hQ2
           obtain⟨va,vn,vc,rfl⟩:=hO.shape
           have e0:=(Stp.of_below hB (fun _=>False)).cell c0 (fun e=>e)
           have e3:=(Stp.of_below hB (fun _=>False)).cell c3' (fun e=>e)
           have g3:wr.frozen? ⟨r,k * 4+3,none⟩=false:=by rw [(Stp.of_below hB (fun _=>False)).frozen (p:=⟨r,k * 4+3,none⟩) lr (fun e=>e)];exact f3
           clear d0 d3 c0 c3' f3 hQ hc
           go_wp2
           go_returns
           exact⟨rfl,_,_,hO,hB,rfl⟩
  · have hil:i=l.length:=by omega
    have hQ4:Hid (l.take i++(ins0 t id++but t (l.drop i))=R):=by
     have:=hQ.out
     show _=_
     rw [← this,hil,List.drop_length]
     unfold ptL but;simp
    have a9:¬(i:Int) < (l.length:Int):=by omega
    clear hQ
    have hQ2:=hQ4
    clear hQ4
    by_cases h0:id=0
    · subst h0
      have hQ3:Hid (l.take i++but t (l.drop i)=R):=by have:=hQ2.out;unfold ins0 at this;rw [if_pos rfl,List.nil_append]at this;exact this
      clear hQ2
      go_wp2
      go_loopw [8,10] (fun ov iv wr=>∃ (i:Nat) (X:List Ent),iv= .int .i64 (i:Int)∧i≤l.length∧X.length≤i+1∧OwN w.heap.size wr ov X∧Below w.heap.size w wr∧Hid (X++but t (l.drop i)=R)) (fun _ iv _=>l.length - (intOf iv).toNat)
      case atStart=>exact⟨i,l.take i,(by first | rfl | rw [hil]),hi,by simp;omega,hO,hB,hQ3⟩
      case round=>
       clear hQ3
       obtain⟨i,X,rfl,hi,hX,hO,hB,hQ⟩:=hrel
       by_cases hlt:i < l.length
       · have hQ2:=hQ.out
         rw [Z34 hlt]at hQ2
         unfold but at hQ2
         clear hQ
         obtain⟨b,hab,hcs⟩:=hc.out (by omega)
         cases hab
         have k1:=(Stp.of_below hB (fun _=>False)).cell (hcs i hlt).1 (fun e=>e)
         have k2:=(Stp.of_below hB (fun _=>False)).cell (hcs i hlt).2 (fun e=>e)
         clear hcs
         generalize l.getD i Ent.zero=x at *
         have a9:(i:Int) < (l.length:Int):=by omega
         have a8:(0:Int)≤(i:Int):=by omega
         have tX:=Z17 x.s
         by_cases hx:x.s=t
         · rw [if_pos hx]at hQ2
           have hQ3:Hid _:=hQ2
           rw [hx]at k2
           clear hQ2 hx tX
           go_wp2
           go_roundw
           case rel=>exact⟨i+1,X,by go_num,by omega,by omega,hO,hB,hQ3⟩
           case measure=>simp [intOf];omega
         · rw [if_neg hx]at hQ2
           have hQ3:Hid ((X++ [x])++but t (l.drop (i+1))=R):=by show _=_;rw [← hQ2];simp
           have hxb:(x.s != t)=true:=by simpa using hx
           have hxc:(x.s==t)=false:=by simpa using hx
           clear hQ2 hx
           go_wp2_with (first
            | (refine Z47 (by rfl) _ (by rfl) b (i * 2) (by rfl) x k1 k2 ?_)
            | (refine Z3d (by rfl) _ (by rfl) x (by rfl) ?_;intro g5 w5 z5 r5 b5
               have o5:=hO.later b5
               have B5:=Z00q hB b5 (Nat.le_refl _))
            | (refine Z2w (B:=w.heap.size) rfl _ _ (by rfl) (by rfl) o5 g5 x (by rfl) r5 (by first | omega | (simp;omega)) B5.size ?_;intro v6 w6 o6 s6
               have B6:=Z2i B5 s6))
           go_roundw
           case rel=>exact⟨i+1,X++ [x],by go_num,by omega,by simp;omega,o6,B6,hQ3⟩
           case measure=>simp [intOf];omega
       · obtain rfl:i=l.length:=by omega
         have hQ2:X=R:=by have:=hQ.out;rw [List.drop_length]at this;unfold but at this;rw [List.append_nil]at this;exact this
         subst hQ2
         obtain⟨va,vn,vc,rfl⟩:=hO.shape
         have e0:=(Stp.of_below hB (fun _=>False)).cell c0 (fun e=>e)
         have e3:=(Stp.of_below hB (fun _=>False)).cell c3' (fun e=>e)
         have g3:wr.frozen? ⟨r,k * 4+3,none⟩=false:=by rw [(Stp.of_below hB (fun _=>False)).frozen (p:=⟨r,k * 4+3,none⟩) lr (fun e=>e)];exact f3
         clear d0 d3 c0 c3' f3 hQ hc
         go_wp2
         go_returns
         exact⟨rfl,_,_,hO,hB,rfl⟩
    · have q0:(id != 0)=true:=by simpa using h0
      have hQ3:Hid ((l.take i++ [⟨id,t⟩])++but t (l.drop i)=R):=by have:=hQ2.out;unfold ins0 at this;rw [if_neg h0]at this;show _=_;rw [← this];simp
      clear hQ2
      go_wp2_with (first
       | (refine Z3d (by rfl) _ (by rfl) ⟨id,t⟩ (by rfl) ?_;intro g5 w5 z5 r5 b5
          have o5:=hO.later b5
          have B5:=Z00q hB b5 (Nat.le_refl _))
       | (refine Z2w (B:=w.heap.size) rfl _ _ (by rfl) (by rfl) o5 g5 ⟨id,t⟩ (by rfl) r5 (by first | omega | (simp;omega)) B5.size ?_;intro v6 w6 o6 s6
          have B6:=Z2i B5 s6))
      go_loopw [8,10] (fun ov iv wr=>∃ (i:Nat) (X:List Ent),iv= .int .i64 (i:Int)∧i≤l.length∧X.length≤i+1∧OwN w.heap.size wr ov X∧Below w.heap.size w wr∧Hid (X++but t (l.drop i)=R)) (fun _ iv _=>l.length - (intOf iv).toNat)
      case atStart=>exact⟨i,l.take i++ [⟨id,t⟩],(by first | rfl | rw [hil]),hi,by simp;omega,o6,B6,hQ3⟩
      case round=>
       clear hQ3
       obtain⟨i,X,rfl,hi,hX,hO,hB,hQ⟩:=hrel
       by_cases hlt:i < l.length
       · have hQ2:=hQ.out
         rw [Z34 hlt]at hQ2
         unfold but at hQ2
         clear hQ
         obtain⟨b,hab,hcs⟩:=hc.out (by omega)
         cases hab
         have k1:=(Stp.of_below hB (fun _=>False)).cell (hcs i hlt).1 (fun e=>e)
         have k2:=(Stp.of_below hB (fun _=>False)).cell (hcs i hlt).2 (fun e=>e)
         clear hcs
         generalize l.getD i Ent.zero=x at *
         have a9:(i:Int) < (l.length:Int):=by omega
         have a8:(0:Int)≤(i:Int):=by omega
         have tX:=Z17 x.s
         by_cases hx:x.s=t
         · rw [if_pos hx]at hQ2
           have hQ3:Hid _:=hQ2
           rw [hx]at k2
           clear hQ2 hx tX
           go_wp2
           go_roundw
           case rel=>exact⟨i+1,X,by go_num,by omega,by omega,hO,hB,hQ3⟩
           case measure=>simp [intOf];omega
         · rw [if_neg hx]at hQ2
           have hQ3:Hid ((X++ [x])++but t (l.drop (i+1))=R):=by show _=_;rw [← hQ2];simp
           have hxb:(x.s != t)=true:=by simpa using hx
           have hxc:(x.s==t)=false:=by simpa using hx
           clear hQ2 hx
           go_wp2_with (first
            | (refine Z47 (by rfl) _ (by rfl) b (i * 2) (by rfl) x k1 k2 ?_)
            | (refine Z3d (by rfl) _ (by rfl) x (by rfl) ?_;intro g5 w5 z5 r5 b5
               have o5:=hO.later b5
               have B5:=Z00q hB b5 (Nat.le_refl _))
            | (refine Z2w (B:=w.heap.size) rfl _ _ (by rfl) (by rfl) o5 g5 x (by rfl) r5 (by first | omega | (simp;omega)) B5.size ?_;intro v6 w6 o6 s6
               have B6:=Z2i B5 s6))
           go_roundw
           case rel=>exact⟨i+1,X++ [x],by go_num,by omega,by simp;omega,o6,B6,hQ3⟩
           case measure=>simp [intOf];omega
       · obtain rfl:i=l.length:=by omega
         have hQ2:X=R:=by have:=hQ.out;rw [List.drop_length]at this;unfold but at this;rw [List.append_nil]at this;exact this
         subst hQ2
         obtain⟨va,vn,vc,rfl⟩:=hO.shape
         have e0:=(Stp.of_below hB (fun _=>False)).cell c0 (fun e=>e)
         have e3:=(Stp.of_below hB (fun _=>False)).cell c3' (fun e=>e)
         have g3:wr.frozen? ⟨r,k * 4+3,none⟩=false:=by rw [(Stp.of_below hB (fun _=>False)).frozen (p:=⟨r,k * 4+3,none⟩) lr (fun e=>e)];exact f3
         clear d0 d3 c0 c3' f3 hQ hc
         go_wp2
         go_returns
         exact⟨rfl,_,_,hO,hB,rfl⟩
theorem Z40 {w:World} {U:Nat→Prop} {y:Nat} {Z:Tz} (h:Dx w U y Z) {d:Int} (hd:0≤d∧d.toNat < Z.N.length) (hso:Srd (Z.nd d).nm) (hnl:(Z.nd d).nm.length≤1000) (t:List UInt8) (id:Int):
 Calls Tryz.prog 75 #[.pointer (some ⟨y,0,none⟩), .int .i64 d, .string (str t), .int .i64 id] w fun e w'=>e= .returned (.tuple #[])∧DxG U y (Z.put d t id) w w':=by
 obtain⟨fb,r,c,A,F,sd,sn,H,hU⟩:=h
 obtain⟨k,rfl⟩:∃ k:Nat,d=(k:Int):=⟨d.toNat,by omega⟩
 have hk:k < Z.N.length:=by simpa using hd.2
 refine(Zbc (t:=t) (id:=id) H.c0 hk (H.nnm hk) (H.row.frozen _) (H.nm k hk).1 hso hnl).mono ?_
 rintro e w' ⟨rfl,v,w2,hO,hB,rfl⟩
 refine⟨rfl,?_⟩
 obtain⟨s,rfl,hs1,hs2,hs3⟩:=hO.1.es hO.2
 have H2:=(H.later hB).more (A':=fun x=>A x∨(w.heap.size≤x∧x < w2.heap.size)) (fun x e=> .inl e) (fun x e=>by
  have l1:=H.tr.lt
  have l2:=H.fd.lt
  have l3:=H.row.lt
  have l4:=hB.size
  rcases e with e | e
  · obtain⟨q1,q2,q3,q4⟩:=H.nA x e;exact⟨q1,q2,q3,by omega⟩
  · exact⟨by omega,by omega,by omega,e.2⟩)
 have H3:=H2.set3 hk (s:=s) (l:=ptL (Z.nd k).nm t id) ⟨hs2,hs3.mono (fun x e=> .inr e)⟩
 refine⟨_,⟨fb,r,c,_,_,_,_,H3,fun x=>Iff.rfl⟩,?_,?_⟩
 · exact(Stp.of_below hB U).next ((Stp.refl (fun z=>z=r) w2).setCell (p:=⟨r,k * 4+3,none⟩) (.inl rfl) _) (fun x e=> .inl ((hU x).2 (.inr (.inr (.inl e)))))
 · intro x hx
   rcases hx with e | e | e | e | e
   · exact .inl ((hU x).2 (.inl e))
   · exact .inl ((hU x).2 (.inr (.inl e)))
   · exact .inl ((hU x).2 (.inr (.inr (.inl e))))
   · exact .inl ((hU x).2 (.inr (.inr (.inr e))))
   · exact .inr ⟨e.1,by simpa using e.2⟩
set_option maxRecDepth 100000
section
variable {ops : Array Oper} {rest : List Oper} {o : Oper} {a : Act} {w : World} {Q : Exit → Act → World → Prop}
theorem Zd1 {r c n:Nat} {F:Nat→Value} (h:Nr w r c n F) {i:Nat} (hi:i < n):(storeVar 76 ⟨r,i * 4,none⟩ (.agg ndZ.toArray)).run Tryz.prog w= .ok () (w.setCells r (i * 4) ndZ):=
 run_storeVar_mid w r (i * 4) _ ndZ.toArray (fun j hj=>by
  have hj4:j < 4:=hj
  exact⟨by rw [h.cell (by omega)];rfl,h.frozen _⟩) (by kernel_rfl) (all_oneCell_toArray (fun v hv=>by unfold ndZ at hv;simp at hv;rcases hv with rfl | rfl<;>rfl))
theorem Zdl {r c n:Nat} {F:Nat→Value} (hw:Region.wanted o (yielded ops a.tmps)=true) (x v:Operand) (ho:o.op= .store 76 x v) (i:Nat) (hx:a.eval x= .pointer (some ⟨r,i * 4,none⟩)) (hv:a.eval v= .agg ndZ.toArray) (h:Nr w r c n F) (hi:i < n)
 (k:wpList Tryz.prog ops Q rest (a.put o.dst undef) (w.setCells r (i * 4) ndZ)):wpList Tryz.prog ops Q (o::rest) a w:=by
 refine Z4f hw _ ?_ k
 simp only [execOp,ho,hx,hv,Instr.storeAt,Instr.sureAddr,Sem.run_bind,Sem.run_pure,Result.andThen_ok]
 rw [Zd1 h hi];rfl
end
set_option maxHeartbeats 4000000 in
theorem Z72 {w:World} {U:Nat→Prop} {y:Nat} {Z:Tz} (h:Dx w U y Z) {i:Int} (hi:0≤i∧i.toNat < Z.N.length):
 Calls Tryz.prog 72 #[.pointer (some ⟨y,0,none⟩), .int .i64 i] w fun e w'=>e= .returned (.tuple #[])∧DxG U y (Z.gone i) w w':=by
 have h0:=h
 obtain⟨fb,r,c,A,F,sd,sn,H,hU⟩:=h
 obtain⟨k,rfl⟩:∃ k:Nat,i=(k:Int):=⟨i.toNat,by omega⟩
 have hk:k < Z.N.length:=by simpa using hi.2
 have a1:(0:Int)≤(k:Int):=by omega
 have a2:(k:Int) < (Z.N.length:Int):=by omega
 have c0:=H.c0
 have c1:=H.c1
 have cl:=H.nl hk
 have hC:=Z8s H.fd (k:Int)
 by_cases h1:(Z.nd (k:Int)).ln=0
 · rw [h1]at cl
   by_cases h2:fdCt Z.t (k:Int) 8=0
   · have e1:Hid (Z.gone (k:Int)=Z.up (k:Int) Nd.zero):=by show _=_;unfold Tz.gone;rw [if_pos ⟨h1,h2⟩]
     rw [h2]at hC
     clear h1 h2
     go_enter Tryz.func72,Tryz.ntmps72
     go_wp2_with (first
      | (go_at_call 110;refine hC.mono ?_;rintro e u ⟨rfl,rfl⟩)
      | (refine Zdl (by rfl) _ _ (by rfl) k (by rfl) (by rfl) H.row hk ?_))
     go_returns
     obtain⟨F',H3⟩:=H.zero hk
     refine⟨rfl,?_⟩
     rw [e1.out]
     exact⟨U,⟨fb,r,c,_,_,_,_,H3,hU⟩,Stp.of_setCells w r (k * 4) ndZ (.inl ((hU r).2 (.inr (.inr (.inl rfl))))),Grew.refl _ _ _⟩
   · have e1:Hid (Z.gone (k:Int)=Z):=by show _=_;unfold Tz.gone;rw [if_neg (fun e=>h2 e.2)]
     have q2:(fdCt Z.t (k:Int) 8==0)=false:=by simpa using h2
     clear h1 h2
     generalize fdCt Z.t (k:Int) 8=C at *
     go_enter Tryz.func72,Tryz.ntmps72
     go_wp2_with (go_at_call 110;refine hC.mono ?_;rintro e u ⟨rfl,rfl⟩)
     go_returns
     refine⟨rfl,?_⟩
     rw [e1.out]
     exact DxG.refl h0 (Below.refl _ _)
 · have e1:Hid (Z.gone (k:Int)=Z):=by show _=_;unfold Tz.gone;rw [if_neg (fun e=>h1 e.1)]
   have q1:((Z.nd (k:Int)).ln==0)=false:=by simpa using h1
   clear h1 hC
   generalize (Z.nd (k:Int)).ln=L at *
   go_enter Tryz.func72,Tryz.ntmps72
   go_wp2
   go_returns
   refine⟨rfl,?_⟩
   rw [e1.out]
   exact DxG.refl h0 (Below.refl _ _)
set_option maxHeartbeats 4000000 in
theorem Z73 {w:World} {U:Nat→Prop} {y:Nat} {Z:Tz} (h:Dx w U y Z) {i:Int} (hi:0≤i∧i.toNat < Z.N.length) (hl:0≤(Z.nd i).ln∧(Z.nd i).ln≤200):
 Calls Tryz.prog 76 #[.pointer (some ⟨y,0,none⟩), .int .i64 i] w fun e w'=>e= .returned (.tuple #[])∧DxG U y ((Z.lnk i (-1)).gone i) w w':=by
 obtain⟨fb,r,c,A,F,sd,sn,H,hU⟩:=h
 obtain⟨k,rfl⟩:∃ k:Nat,i=(k:Int):=⟨i.toNat,by omega⟩
 have hk:k < Z.N.length:=by simpa using hi.2
 have a1:(0:Int)≤(k:Int):=by omega
 have a2:(k:Int) < (Z.N.length:Int):=by omega
 have c0:=H.c0
 have cl:=H.nl hk
 have fl:=H.row.frozen (k * 4+1)
 have H2:=H.set1 hk ((Z.nd (k:Int)).ln - 1)
 have e2:(⟨Z.N.set k ⟨(Z.N.getD k Nd.zero).k,(Z.nd (k:Int)).ln - 1,(Z.N.getD k Nd.zero).d,(Z.N.getD k Nd.zero).nm⟩,Z.t⟩:Tz)=Z.lnk (k:Int) (-1):=by
  unfold Tz.lnk
  rw [Int.sub_eq_add_neg];rfl
 rw [e2]at H2
 have s2:Stp U w (w.setCell ⟨r,k * 4+1,none⟩ (.int .i64 ((Z.nd (k:Int)).ln - 1))):=(Stp.refl U w).setCell (p:=⟨r,k * 4+1,none⟩) (.inl ((hU r).2 (.inr (.inr (.inl rfl))))) _
 have G:=Z72 (i:=(k:Int)) ⟨fb,r,c,_,_,_,_,H2,hU⟩ ⟨a1,by rw [Z1j];exact hi.2⟩
 have hL:=hl
 generalize (Z.nd (k:Int)).ln=L at *
 clear e2 H2
 go_enter Tryz.func76,Tryz.ntmps76
 go_wp2_with (go_at_call 72;refine G.mono ?_;rintro e w3 ⟨rfl,G3⟩)
 go_returns
 exact⟨rfl,DxG.join s2 (Grew.refl _ _ _) G3⟩
def Tz.comeL (Z:Tz) (k:Int):Tz:=⟨Z.N++ [⟨k,1, [], []⟩],Z.t⟩
theorem Z5t (Z:Tz) (k:Int) (j:Int):(Z.comeL k).nd j=if j.toNat=Z.N.length then⟨k,1, [], []⟩else Z.nd j:=by
 unfold Tz.comeL Tz.nd
 simp only [List.getD_eq_getElem?_getD]
 by_cases e:j.toNat=Z.N.length
 · rw [if_pos e,e];simp
 · rw [if_neg e]
   by_cases e2:j.toNat < Z.N.length
   · rw [List.getElem?_append_left e2]
   · rw [List.getElem?_eq_none (by simp;omega),List.getElem?_eq_none (by omega)]
theorem Zgt {Z:Tz} {k d:Int} {s:List UInt8} (hd:d.toNat < Z.N.length):Z.mkN k d s=(Z.comeL k).put d s Z.top:=by
 have ht:Z.top.toNat=Z.N.length:=by unfold Tz.top;omega
 have hlc:(Z.come k).N.length=Z.N.length+1:=by unfold Tz.come;simp
 have e:(Z.come k).lnk Z.top 1=Z.comeL k:=by
  refine Z2r (by rw [Z1j,hlc];unfold Tz.comeL;simp) (fun j hj=>?_) rfl
  rw [Z2a (by rw [hlc];omega),Z5t]
  by_cases e:j.toNat=Z.N.length
  · rw [if_pos (by omega),if_pos e,Z2o,if_pos ht];rfl
  · rw [if_neg (by omega),if_neg e,Z2o,if_neg e]
 unfold Tz.mkN
 rw [Z4i (by rw [hlc];omega) (by rw [hlc];omega),e]
theorem Dw.come {w w':World} {y fb r c r' c':Nat} {A:Nat→Prop} {F:Nat→Value} {sd sn:Nat→Sv} {Z:Tz} (h:Dw w y fb r c A F sd sn Z) (k:Int) (s:Stp (fun x=>x=r∨x=y) w w') (ht:Cs w' y [.slice (some ⟨r',0,none⟩) (Z.N.length+1) c', .pointer (some ⟨fb,0,none⟩)])
 (hr:r'=r∨w.heap.size≤r') (hR:w'.ownsRow 0 76 4 (.slice (some ⟨r',0,none⟩) (Z.N.length+1) c') (Z.N.length+1) ((List.range (Z.N.length * 4)).map F++ [.int .i64 k, .int .i64 1, .slice none 0 0, .slice none 0 0])):
 ∃ F',Dw w' y fb r' c' A F' (fun j=>if j=Z.N.length then Sv.nil else sd j) (fun j=>if j=Z.N.length then Sv.nil else sn j) (Z.comeL k):=by
 have l1:=h.tr.lt
 have l2:=h.fd.lt
 have l3:=h.row.lt
 have n1:=h.n1
 have n2:=h.n2
 have n3:=h.n3
 have g4:∀ x,A x→¬(x=r∨x=y):=fun x hx e=>by obtain⟨a,b,d,_⟩:=h.nA x hx;exact e.elim d a
 have hlen:(Z.comeL k).N.length=Z.N.length+1:=by unfold Tz.comeL;simp
 have N:∀ j,j < Z.N.length+1→(Z.comeL k).N.getD j Nd.zero=if j=Z.N.length then⟨k,1, [], []⟩else Z.N.getD j Nd.zero:=fun j hj=>by
  have:=Z5t Z k (j:Int)
  unfold Tz.nd at this
  simpa using this
 let F':Nat→Value:=fun j=>if j < Z.N.length * 4 then F j else if j=Z.N.length * 4 then .int .i64 k else if j=Z.N.length * 4+1 then .int .i64 1 else .slice none 0 0
 have eF:(List.range (Z.N.length * 4)).map F++ [.int .i64 k, .int .i64 1, .slice none 0 0, .slice none 0 0]=(List.range ((Z.N.length+1) * 4)).map F':=by
  apply List.ext_getElem?
  intro j
  by_cases h1:j < Z.N.length * 4
  · rw [List.getElem?_append_left (by simp;omega),Z23 F h1,Z23 F' (by omega)]
    show _=some (if j < Z.N.length * 4 then F j else _)
    rw [if_pos h1]
  · by_cases h2:j < (Z.N.length+1) * 4
    · rw [Z23 F' h2,List.getElem?_append_right (by simp;omega)]
      simp only [List.length_map,List.length_range]
      obtain e | e | e | e:j=Z.N.length * 4∨j=Z.N.length * 4+1∨j=Z.N.length * 4+2∨j=Z.N.length * 4+3:=by omega
      all_goals subst e
      · simp [F']
      · have e1:Z.N.length * 4+1 - Z.N.length * 4=1:=by omega
        rw [e1];simp [F'];try (intro h;omega)
      · have e1:Z.N.length * 4+2 - Z.N.length * 4=2:=by omega
        rw [e1];simp [F'];try (intro h;omega)
      · have e1:Z.N.length * 4+3 - Z.N.length * 4=3:=by omega
        rw [e1];simp [F'];try (intro h;omega)
    · rw [List.getElem?_eq_none (by simp;omega),List.getElem?_eq_none (by simp;omega)]
 rw [eF]at hR
 refine⟨F',?_,?_,h.fd.step s (fun e=>e.elim n3 (fun e=>n1 e.symm)),n1,?_,?_,fun x hx=>?_,fun j hj=>?_,fun j hj=>?_,fun j hj=>?_⟩
 · rw [hlen];exact ht
 · rw [hlen];exact hR
 · rcases hr with e | e
   · rw [e];exact n2
   · omega
 · rcases hr with e | e
   · rw [e];exact n3
   · omega
 · obtain⟨q1,q2,q3,q4⟩:=h.nA x hx
   refine⟨q1,q2,?_,Nat.lt_of_lt_of_le q4 s.size⟩
   rcases hr with e | e
   · rw [e];exact q3
   · omega
 · rw [hlen]at hj
   rw [N j hj]
   by_cases e:j=Z.N.length
   · subst e
     simp only [if_true]
     refine⟨?_,?_,?_,?_⟩<;>simp [F',Sv.nil]
     all_goals (first | omega | (intro h;omega))
   · have hj':j < Z.N.length:=by omega
     simp only [if_neg e]
     obtain⟨q0,q1,q2,q3⟩:=h.cel j hj'
     have ef:∀ t,t < 4→F' (j * 4+t)=F (j * 4+t):=fun t ht=>by
      show(if j * 4+t < Z.N.length * 4 then _ else _)=_
      rw [if_pos (by omega)]
     exact⟨(ef 0 (by omega)).trans q0,(ef 1 (by omega)).trans q1,(ef 2 (by omega)).trans q2,(ef 3 (by omega)).trans q3⟩
 · rw [hlen]at hj
   rw [N j hj]
   by_cases e:j=Z.N.length
   · subst e;simp only [if_true];exact⟨Z0y _,InE.nil _⟩
   · simp only [if_neg e]
     obtain⟨q1,q2⟩:=h.dt j (by omega)
     exact⟨q1.step s q2 g4,q2⟩
 · rw [hlen]at hj
   rw [N j hj]
   by_cases e:j=Z.N.length
   · subst e;simp only [if_true];exact⟨EsS.nil _,InE.nil _⟩
   · simp only [if_neg e]
     obtain⟨q1,q2⟩:=h.nm j (by omega)
     exact⟨q1.step s q2 g4,q2⟩
end Go.Proofs.YtdnjddpfcgginaaGreat
