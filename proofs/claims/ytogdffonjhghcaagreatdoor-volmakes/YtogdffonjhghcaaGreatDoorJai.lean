/-
  Texts of my own, joined: no statement is proved here.
-/
import Derived.Test.YtogdffonjhghcaaGreatDoorJad
set_option linter.unusedSimpArgs false
set_option linter.unusedVariables false
namespace Go.Proofs.YtogdffonjhghcaaGreatDoor
open Go.ChangeShapes Go.WideShapes Go.ChangeAt Go.RowKit
set_option maxRecDepth 100000 in
set_option maxHeartbeats 2000000 in
theorem Z36 {w:World} {E:Nat→Prop} {p:Pt} {d n:Sv} (h:PtM w E p d n) (h1:p.data.length≤100000) (h2:p.needs.length≤100000):
 Calls Tryz.prog 137 #[.agg (p.cs d n).toArray] w fun e w'=>∃ d' n':Sv,e= .returned (.agg (p.cs d' n').toArray)∧PtM w' (Made w w') p d' n'∧Below w.heap.size w w':=by
 have tok:True:=trivial
 have tok2:True:=trivial
 go_enter Tryz.func137,Tryz.ntmps137
 go_wp2_with (first
  | (clear tok;refine Z0g (by rfl) _ (by rfl) p d n (by rfl) ?_;intro g1 w1 a1 a2 r1 b1)
  | (clear tok2;refine Z0t (by rfl) (by rfl) ?_;intro g2 w2 a3 a4 r2 b2))
 have dr:Below w2.heap.size w2 w2.drew:=(Below.refl _ _).drew
 have hP:=((h.later b1).later b2).later dr
 have hC:=(r1.later b2).later dr
 have hB:Below w.heap.size w w2.drew:=(Z01 b1 b2 (Nat.le_refl _)).drew
 replace r2:=r2.later dr
 have hG:g2 < w2.drew.heap.size:=a4
 have hne:g1≠g2:=by omega
 obtain⟨c0,c1,c2,c3,c4,c5,c6,c7,c8⟩:=Pt.cells hC
 have f3:=hC.frozen 3
 have f5:=hC.frozen 5
 clear r1 b1 b2 h dr
 refine wp_region_held_drew (S:=fun _=>True) (by kernel_rfl) trivial (fun hHeld=>?_)
 have l3:∀ u,Cs u g1 (p.cs d n)→(loadVar 53 ⟨g1,3,none⟩).run Tryz.prog u= .ok (.slice d.a d.n d.c) u:=fun u hu=>by
  have:=(Pt.cells hu).2.2.2.1;go_simp
 have l5:∀ u,Cs u g1 (p.cs d n)→(loadVar 54 ⟨g1,5,none⟩).run Tryz.prog u= .ok (.slice n.a n.n n.c) u:=fun u hu=>by
  have:=(Pt.cells hu).2.2.2.2.2.1;go_simp
 have s3:∀ u (d':Sv) cs,Cs u g1 cs→cs.length=9→(storeVar 53 ⟨g1,3,none⟩ (.slice d'.a d'.n d'.c)).run Tryz.prog u= .ok () (u.setCell ⟨g1,3,none⟩ (.slice d'.a d'.n d'.c)):=fun u d' cs hu hl=>by
  have h1:=hu.cell 3 _ (List.getElem?_eq_getElem (by omega));have h2:=hu.frozen 3;go_simp
 have s5:∀ u (d':Sv) cs,Cs u g1 cs→cs.length=9→(storeVar 54 ⟨g1,5,none⟩ (.slice d'.a d'.n d'.c)).run Tryz.prog u= .ok () (u.setCell ⟨g1,5,none⟩ (.slice d'.a d'.n d'.c)):=fun u d' cs hu hl=>by
  have h1:=hu.cell 5 _ (List.getElem?_eq_getElem (by omega));have h2:=hu.frozen 5;go_simp
 clear c0 c1 c2 c3 c4 c5 c6 c7 c8 f3 f5
 have fin:∀ u (s1 s2:Sv),Cs u g1 (p.cs d n)→Cs u g2 (Pt.zero.cs Sv.nil Sv.nil)→BsS u s1 p.data→InsS u s2 p.needs→InE (fun x=>g2 < x∧x < u.heap.size) s1→InE (fun x=>g2 < x∧x < u.heap.size) s2→Below w.heap.size w u→
  ∃ u',(u.setCell ⟨g1,3,none⟩ (.slice s1.a s1.n s1.c)).setCell ⟨g1,5,none⟩ (.slice s2.a s2.n s2.c)=u'∧Cs u' g1 (p.cs s1 s2)∧Cs u' g2 (Pt.zero.cs Sv.nil Sv.nil)∧PtM u' (fun x=>g2 < x∧x < u'.heap.size) p s1 s2∧Below w.heap.size w u':=by
  intro u s1 s2 k1 k2 k3 k4 k5 k6 k7
  have st:Stp (fun x=>x=g1) u ((u.setCell ⟨g1,3,none⟩ (.slice s1.a s1.n s1.c)).setCell ⟨g1,5,none⟩ (.slice s2.a s2.n s2.c)):=((Stp.refl (fun x=>x=g1) u).setCell (p:=⟨g1,3,none⟩) (.inl rfl) _).setCell (p:=⟨g1,5,none⟩) (.inl rfl) _
  have hsz:=st.size
  refine⟨_,rfl,(k1.set 3 (.slice s1.a s1.n s1.c) rfl).set 5 (.slice s2.a s2.n s2.c) rfl,k2.step st (Ne.symm hne),⟨k3.step st k5 (fun x hx e=>by omega),k4.step st k6 (fun x hx e=>by omega),k5.mono (fun x hx=>⟨hx.1,by omega⟩),k6.mono (fun x hx=>⟨hx.1,by omega⟩)⟩,?_⟩
  exact((Stp.of_below k7 (fun _=>False)).next st (fun x e=> .inr (by omega))).below (Nat.le_refl _) (fun x e=>e.elim)
 refine tl 0 (.pointer (some ⟨g1,3,none⟩)) rfl ?_
 try simp only [z]
 refine tl 3 (.pointer (some ⟨g1,5,none⟩)) rfl ?_
 try simp only [z]
 refine wpAnyH_ready (rs:= [1,4]) (by kernel_rfl) (by simp) ?_
 refine(AllReadyH.cons (o:=⟨some 4, .load 53 (.tmp 3),53,_,#[⟨0, .data⟩],none⟩) rfl (fun K hK=>?_) (AllReadyH.cons (o:=⟨some 7, .load 54 (.tmp 6),54,_,#[⟨3, .data⟩],none⟩) rfl (fun K hK=>?_) AllReadyH.nil))
 · skip
   refine Z63 _ _ (.slice d.a d.n d.c) rfl _ (by rfl) (by rfl) (l3 _ hC) ?_
   refine hK.out _ _ (trivial) (fun hHeld=>?_)
   clear hK K
   try simp only [z]
   refine wpAnyH_ready (rs:= [2,4]) (by kernel_rfl) (by simp) ?_
   refine(AllReadyH.cons (o:=⟨some 5, .call { callee:=Callee.value (.func 194),args:=#[.tmp 4],argTypes:=#[53]},53,_,#[⟨1, .data⟩],none⟩) rfl (fun K hK=>?_) (AllReadyH.cons (o:=⟨some 7, .load 54 (.tmp 6),54,_,#[⟨3, .data⟩],none⟩) rfl (fun K hK=>?_) AllReadyH.nil))
   · skip
     go_simp
     refine(Zaf hP.bs h1).mono ?_
     rintro e w3 ⟨x1,rfl,q1,q3,q4⟩
     try go_wp2_with fail
     replace hP:=hP.later q4
     replace hC:=hC.later q4
     replace r2:=r2.later q4
     try replace t1:=t1.later q4
     try replace t3:=t3.mono (E':=fun x=>g2 < x∧x < w3.heap.size) (fun x hx=>⟨hx.1,Nat.lt_of_lt_of_le hx.2 q4.size⟩)
     replace q3:=q3.mono (E':=fun x=>g2 < x∧x < w3.heap.size) (fun x hx=>⟨Nat.lt_of_lt_of_le hG hx.1,hx.2⟩)
     replace hG:=Nat.lt_of_lt_of_le hG q4.size
     replace hB:=Z01 hB q4 (Nat.le_refl _)
     refine hK.out _ _ (trivial) (fun hHeld=>?_)
     clear hK K
     try simp only [z]
     refine rd 4 rfl (fun K hK=>?_)
     refine Z63 _ _ (.slice n.a n.n n.c) rfl _ (by rfl) (by rfl) (l5 _ hC) ?_
     refine hK.out _ _ (trivial) (fun hHeld=>?_)
     clear hK K
     try simp only [z]
     refine tl 6 (.pointer (some ⟨g1,3,none⟩)) rfl ?_
     try simp only [z]
     refine rd 5 rfl (fun K hK=>?_)
     go_simp
     refine(Zag hP.is h2).mono ?_
     rintro e w4 ⟨x2,rfl,t1,t3,t4⟩
     try go_wp2_with fail
     replace hP:=hP.later t4
     replace hC:=hC.later t4
     replace r2:=r2.later t4
     try replace q1:=q1.later t4
     try replace q3:=q3.mono (E':=fun x=>g2 < x∧x < w4.heap.size) (fun x hx=>⟨hx.1,Nat.lt_of_lt_of_le hx.2 t4.size⟩)
     replace t3:=t3.mono (E':=fun x=>g2 < x∧x < w4.heap.size) (fun x hx=>⟨Nat.lt_of_lt_of_le hG hx.1,hx.2⟩)
     replace hG:=Nat.lt_of_lt_of_le hG t4.size
     replace hB:=Z01 hB t4 (Nat.le_refl _)
     refine hK.out _ _ (trivial) (fun hHeld=>?_)
     clear hK K
     try simp only [z]
     refine rd 7 rfl (fun K hK=>?_)
     refine Z1x _ _ _ _ rfl _ _ (by rfl) (by rfl) (by rfl) (s3 _ x1 _ hC rfl) ?_
     refine hK.out _ _ (trivial) (fun hHeld=>?_)
     clear hK K
     try simp only [Act.put]
     refine tl 8 (.pointer (some ⟨g1,5,none⟩)) rfl ?_
     try simp only [z]
     refine rd 9 rfl (fun K hK=>?_)
     refine Z1x _ _ _ _ rfl _ _ (by rfl) (by rfl) (by rfl) (s5 _ x2 _ (hC.set 3 (.slice x1.a x1.n x1.c) rfl) rfl) ?_
     refine hK.out _ _ (trivial) (fun hHeld=>?_)
     clear hK K
     try simp only [Act.put]
     refine wpAnyH_done (by kernel_rfl) ?_ _
     obtain⟨u',e',m1,m2,m3,m4⟩:=fin _ x1 x2 hC r2 q1 t1 q3 t3 hB
     rw [e']
     clear e' hC r2 q1 t1 q3 t3 hB hP fin l3 l5 s3 s5 hG
     go_wp2_with (first | (refine Z0c (by rfl) _ (by rfl) g1 (by rfl) p x1 x2 m1 ?_) | (refine Z0i (by rfl) _ _ (by rfl) g2 (by rfl) p x1 x2 (by rfl) _ m2 rfl ?_;intro w5 m5 m6))
     refine bodyPost_ret (retC srtP rfl rfl m5 rfl) rfl ⟨x1,x2,rfl,?_,?_⟩
     · exact(m3.step m6 (fun x hx e=>by omega)).mono (fun x hx=>⟨by omega,Nat.lt_of_lt_of_le hx.2 m6.size⟩)
     · exact((Stp.of_below m4 (fun _=>False)).next m6 (fun x e=> .inr (by omega))).below (Nat.le_refl _) (fun x e=>e.elim)
   · skip
     refine Z63 _ _ (.slice n.a n.n n.c) rfl _ (by rfl) (by rfl) (l5 _ hC) ?_
     refine hK.out _ _ (trivial) (fun hHeld=>?_)
     clear hK K
     try simp only [z]
     refine rd 2 rfl (fun K hK=>?_)
     go_simp
     refine(Zaf hP.bs h1).mono ?_
     rintro e w3 ⟨x1,rfl,q1,q3,q4⟩
     try go_wp2_with fail
     replace hP:=hP.later q4
     replace hC:=hC.later q4
     replace r2:=r2.later q4
     try replace t1:=t1.later q4
     try replace t3:=t3.mono (E':=fun x=>g2 < x∧x < w3.heap.size) (fun x hx=>⟨hx.1,Nat.lt_of_lt_of_le hx.2 q4.size⟩)
     replace q3:=q3.mono (E':=fun x=>g2 < x∧x < w3.heap.size) (fun x hx=>⟨Nat.lt_of_lt_of_le hG hx.1,hx.2⟩)
     replace hG:=Nat.lt_of_lt_of_le hG q4.size
     replace hB:=Z01 hB q4 (Nat.le_refl _)
     refine hK.out _ _ (trivial) (fun hHeld=>?_)
     clear hK K
     try simp only [z]
     refine tl 6 (.pointer (some ⟨g1,3,none⟩)) rfl ?_
     try simp only [z]
     refine rd 5 rfl (fun K hK=>?_)
     go_simp
     refine(Zag hP.is h2).mono ?_
     rintro e w4 ⟨x2,rfl,t1,t3,t4⟩
     try go_wp2_with fail
     replace hP:=hP.later t4
     replace hC:=hC.later t4
     replace r2:=r2.later t4
     try replace q1:=q1.later t4
     try replace q3:=q3.mono (E':=fun x=>g2 < x∧x < w4.heap.size) (fun x hx=>⟨hx.1,Nat.lt_of_lt_of_le hx.2 t4.size⟩)
     replace t3:=t3.mono (E':=fun x=>g2 < x∧x < w4.heap.size) (fun x hx=>⟨Nat.lt_of_lt_of_le hG hx.1,hx.2⟩)
     replace hG:=Nat.lt_of_lt_of_le hG t4.size
     replace hB:=Z01 hB t4 (Nat.le_refl _)
     refine hK.out _ _ (trivial) (fun hHeld=>?_)
     clear hK K
     try simp only [z]
     refine rd 7 rfl (fun K hK=>?_)
     refine Z1x _ _ _ _ rfl _ _ (by rfl) (by rfl) (by rfl) (s3 _ x1 _ hC rfl) ?_
     refine hK.out _ _ (trivial) (fun hHeld=>?_)
     clear hK K
     try simp only [Act.put]
     refine tl 8 (.pointer (some ⟨g1,5,none⟩)) rfl ?_
     try simp only [z]
     refine rd 9 rfl (fun K hK=>?_)
     refine Z1x _ _ _ _ rfl _ _ (by rfl) (by rfl) (by rfl) (s5 _ x2 _ (hC.set 3 (.slice x1.a x1.n x1.c) rfl) rfl) ?_
     refine hK.out _ _ (trivial) (fun hHeld=>?_)
     clear hK K
     try simp only [Act.put]
     refine wpAnyH_done (by kernel_rfl) ?_ _
     obtain⟨u',e',m1,m2,m3,m4⟩:=fin _ x1 x2 hC r2 q1 t1 q3 t3 hB
     rw [e']
     clear e' hC r2 q1 t1 q3 t3 hB hP fin l3 l5 s3 s5 hG
     go_wp2_with (first | (refine Z0c (by rfl) _ (by rfl) g1 (by rfl) p x1 x2 m1 ?_) | (refine Z0i (by rfl) _ _ (by rfl) g2 (by rfl) p x1 x2 (by rfl) _ m2 rfl ?_;intro w5 m5 m6))
     refine bodyPost_ret (retC srtP rfl rfl m5 rfl) rfl ⟨x1,x2,rfl,?_,?_⟩
     · exact(m3.step m6 (fun x hx e=>by omega)).mono (fun x hx=>⟨by omega,Nat.lt_of_lt_of_le hx.2 m6.size⟩)
     · exact((Stp.of_below m4 (fun _=>False)).next m6 (fun x e=> .inr (by omega))).below (Nat.le_refl _) (fun x e=>e.elim)
 · skip
   refine Z63 _ _ (.slice n.a n.n n.c) rfl _ (by rfl) (by rfl) (l5 _ hC) ?_
   refine hK.out _ _ (trivial) (fun hHeld=>?_)
   clear hK K
   try simp only [z]
   refine rd 1 rfl (fun K hK=>?_)
   refine Z63 _ _ (.slice d.a d.n d.c) rfl _ (by rfl) (by rfl) (l3 _ hC) ?_
   refine hK.out _ _ (trivial) (fun hHeld=>?_)
   clear hK K
   try simp only [z]
   refine rd 2 rfl (fun K hK=>?_)
   go_simp
   refine(Zaf hP.bs h1).mono ?_
   rintro e w3 ⟨x1,rfl,q1,q3,q4⟩
   try go_wp2_with fail
   replace hP:=hP.later q4
   replace hC:=hC.later q4
   replace r2:=r2.later q4
   try replace t1:=t1.later q4
   try replace t3:=t3.mono (E':=fun x=>g2 < x∧x < w3.heap.size) (fun x hx=>⟨hx.1,Nat.lt_of_lt_of_le hx.2 q4.size⟩)
   replace q3:=q3.mono (E':=fun x=>g2 < x∧x < w3.heap.size) (fun x hx=>⟨Nat.lt_of_lt_of_le hG hx.1,hx.2⟩)
   replace hG:=Nat.lt_of_lt_of_le hG q4.size
   replace hB:=Z01 hB q4 (Nat.le_refl _)
   refine hK.out _ _ (trivial) (fun hHeld=>?_)
   clear hK K
   try simp only [z]
   refine tl 6 (.pointer (some ⟨g1,3,none⟩)) rfl ?_
   try simp only [z]
   refine rd 5 rfl (fun K hK=>?_)
   go_simp
   refine(Zag hP.is h2).mono ?_
   rintro e w4 ⟨x2,rfl,t1,t3,t4⟩
   try go_wp2_with fail
   replace hP:=hP.later t4
   replace hC:=hC.later t4
   replace r2:=r2.later t4
   try replace q1:=q1.later t4
   try replace q3:=q3.mono (E':=fun x=>g2 < x∧x < w4.heap.size) (fun x hx=>⟨hx.1,Nat.lt_of_lt_of_le hx.2 t4.size⟩)
   replace t3:=t3.mono (E':=fun x=>g2 < x∧x < w4.heap.size) (fun x hx=>⟨Nat.lt_of_lt_of_le hG hx.1,hx.2⟩)
   replace hG:=Nat.lt_of_lt_of_le hG t4.size
   replace hB:=Z01 hB t4 (Nat.le_refl _)
   refine hK.out _ _ (trivial) (fun hHeld=>?_)
   clear hK K
   try simp only [z]
   refine rd 7 rfl (fun K hK=>?_)
   refine Z1x _ _ _ _ rfl _ _ (by rfl) (by rfl) (by rfl) (s3 _ x1 _ hC rfl) ?_
   refine hK.out _ _ (trivial) (fun hHeld=>?_)
   clear hK K
   try simp only [Act.put]
   refine tl 8 (.pointer (some ⟨g1,5,none⟩)) rfl ?_
   try simp only [z]
   refine rd 9 rfl (fun K hK=>?_)
   refine Z1x _ _ _ _ rfl _ _ (by rfl) (by rfl) (by rfl) (s5 _ x2 _ (hC.set 3 (.slice x1.a x1.n x1.c) rfl) rfl) ?_
   refine hK.out _ _ (trivial) (fun hHeld=>?_)
   clear hK K
   try simp only [Act.put]
   refine wpAnyH_done (by kernel_rfl) ?_ _
   obtain⟨u',e',m1,m2,m3,m4⟩:=fin _ x1 x2 hC r2 q1 t1 q3 t3 hB
   rw [e']
   clear e' hC r2 q1 t1 q3 t3 hB hP fin l3 l5 s3 s5 hG
   go_wp2_with (first | (refine Z0c (by rfl) _ (by rfl) g1 (by rfl) p x1 x2 m1 ?_) | (refine Z0i (by rfl) _ _ (by rfl) g2 (by rfl) p x1 x2 (by rfl) _ m2 rfl ?_;intro w5 m5 m6))
   refine bodyPost_ret (retC srtP rfl rfl m5 rfl) rfl ⟨x1,x2,rfl,?_,?_⟩
   · exact(m3.step m6 (fun x hx e=>by omega)).mono (fun x hx=>⟨by omega,Nat.lt_of_lt_of_le hx.2 m6.size⟩)
   · exact((Stp.of_below m4 (fun _=>False)).next m6 (fun x e=> .inr (by omega))).below (Nat.le_refl _) (fun x e=>e.elim)
theorem Ziu (last:Int) (l:List Int) (k:Nat) (hk:k < l.length) (h:givn last (l.take k)=true):givn last (l.take (k+1))=(decide (1≤l.getD k 0)&&decide (l.getD k 0≤last)):=by
 unfold givn at *
 rw [List.take_add_one,List.getElem?_eq_getElem hk,List.all_append,h,List.getD_eq_getElem?_getD,List.getElem?_eq_getElem hk];simp
theorem Zoi (last:Int) (l:List Int) (k:Nat) (h:givn last (l.take k)=false):givn last l=false:=by
 unfold givn at *
 have:=List.take_append_drop k l
 rw [← this,List.all_append,h];rfl
set_option maxRecDepth 100000 in
set_option maxHeartbeats 2000000 in
theorem Zit {w:World} {s:Sv} {l:List Int} {g:Nat} {last:Int} (h:InsS w s l) (hc:w.cell? ⟨g,0,none⟩=some (.int .i64 last)) (hm:l.length≤100000):
 Calls Tryz.prog 143 #[.pointer (some ⟨g,0,none⟩), .slice s.a s.n s.c] w fun e w'=>e= .returned (.bool (givn last l))∧w=w':=by
 have hl:=h.i.len
 have hcell:=h.i.cell
 obtain⟨sa,sn,sc⟩:=s
 simp only at hl hcell ⊢
 subst hl
 clear h
 go_enter Tryz.func143,Tryz.ntmps143
 go_wp2
 go_loopw [9] (fun v wr=>wr=w∧∃ k:Nat,k≤l.length∧v= .int .i64 (k:Int)∧givn last (l.take k)=true) (fun v _=>l.length - (intOf v).toNat)
 case atStart=>exact⟨rfl,0,Nat.zero_le _,rfl,rfl⟩
 case round=>
  obtain⟨rfl,k,hk,rfl,hg⟩:=hrel
  by_cases hlt:k < l.length
  · obtain⟨b,o,rfl,hcs⟩:=hcell (by omega)
    have ck:=hcs k hlt
    have hT:=Ziu last l k hlt hg
    have hN:=Zoi last l (k+1)
    rw [hT]at hN
    have hT':Hid (givn last (l.take (k+1))=(decide (1≤l.getD k 0)&&decide (l.getD k 0≤last))):=hT
    have hN':Hid ((decide (1≤l.getD k 0)&&decide (l.getD k 0≤last))=false→givn last l=false):=hN
    clear hT hN hcs hcell hg
    generalize l.getD k 0=y at *
    have a1:(k:Int) < (l.length:Int):=by omega
    go_wp2
    any_goals
     go_returns
     exact⟨Z0s (hN'.out (by simp_all<;>omega)).symm,rfl⟩
    go_roundw
    case rel=>exact⟨trivial,k+1,by omega,by go_num,by rw [hT'.out];simp_all<;>omega⟩
    case measure=>simp [intOf];omega
  · have hk':k=l.length:=by omega
    subst hk'
    rw [List.take_length]at hg
    have hg':Hid (givn last l=true):=hg
    clear hg
    go_wp2
    go_returns
    exact⟨Z0s hg'.out.symm,rfl⟩
def bo (p:Pt):Nat:=(2 ^ p.data.length - 1) * 2 ^ p.off.toNat
def ko (p:Pt):Nat:=2 ^ p.kind.toNat
theorem Zqc:∀ m,m < 65→∀ o,o < 65→m+o≤64→IntKind.u64.wrap (IntKind.u64.wrap (IntKind.u64.wrap (2 ^ m) - 1) * 2 ^ o)=(((2 ^ m - 1) * 2 ^ o:Nat):Int):=by decide+kernel
theorem Zqx:∀ k,k < 7→IntKind.u64.wrap (2 ^ k)=((2 ^ k:Nat):Int):=by decide+kernel
theorem Zga {p:Pt} (hp:fit p=true):bo p < 18446744073709551616:=by
 obtain⟨f1,f2,f3,f4,f5,f6,f7⟩:=Z13 hp
 have h:(2 ^ p.data.length - 1) * 2 ^ p.off.toNat≤(2 ^ p.data.length - 1) * 2 ^ (64 - p.data.length):=Nat.mul_le_mul_left _ (Nat.pow_le_pow_right (by omega) (by omega))
 have h2:∀ m,m < 65→(2 ^ m - 1) * 2 ^ (64 - m) < 18446744073709551616:=by decide+kernel
 exact Nat.lt_of_le_of_lt h (h2 _ (by omega))
theorem Zgp {p:Pt} (hp:fit p=true):ko p < 128:=by
 obtain⟨f1,f2,f3,f4,f5,f6,f7⟩:=Z13 hp
 have h2:∀ m,m < 7→2 ^ m < 128:=by decide
 exact h2 _ (by omega)
theorem Z9b {p:Pt} (hp:fit p=true) (i:Nat):(bo p).testBit i=(decide (p.off≤i)&&decide ((i:Int) < p.off+(p.data.length:Int))):=by
 obtain⟨f1,f2,f3,f4,f5,f6,f7⟩:=Z13 hp
 unfold bo
 rw [← Nat.shiftLeft_eq,Nat.testBit_shiftLeft,Nat.testBit_two_pow_sub_one,Bool.eq_iff_iff]
 simp only [Bool.and_eq_true,decide_eq_true_eq]
 omega
theorem Zny {p q:Pt} (hp:fit p=true) (hq:fit q=true):(decide (bo q&&& bo p≠0))=(decide (q.off < p.off+(p.data.length:Int))&&decide (p.off < q.off+(q.data.length:Int))):=by
 obtain⟨f1,f2,f3,f4,f5,f6,f7⟩:=Z13 hp
 obtain⟨g1,g2,g3,g4,g5,g6,g7⟩:=Z13 hq
 rw [Bool.eq_iff_iff]
 simp only [Bool.and_eq_true,decide_eq_true_eq]
 constructor
 · intro h
   obtain⟨i,hi⟩:=Nat.exists_testBit_of_ne_zero h
   rw [Nat.testBit_and,Z9b hp,Z9b hq]at hi
   simp only [Bool.and_eq_true,decide_eq_true_eq]at hi
   omega
 · intro h e
   have hb:(bo q&&& bo p).testBit (max q.off p.off).toNat=true:=by
    rw [Nat.testBit_and,Z9b hp,Z9b hq]
    simp only [Bool.and_eq_true,decide_eq_true_eq]
    omega
   rw [e,Nat.zero_testBit]at hb;cases hb
theorem Zol {p q:Pt} (hp:fit p=true) (hq:fit q=true):(decide (ko q&&& (18446744073709551615 - ko p)≠0))=(q.kind != p.kind):=by
 obtain⟨f1,f2,f3,f4,f5,f6,f7⟩:=Z13 hp
 obtain⟨g1,g2,g3,g4,g5,g6,g7⟩:=Z13 hq
 have h:∀ a,a < 7→∀ b,b < 7→(decide (2 ^ a&&& (18446744073709551615 - 2 ^ b)≠0))=(a != b):=by decide+kernel
 unfold ko
 rw [h _ (by omega) _ (by omega),Bool.eq_iff_iff]
 simp only [bne_iff_ne,ne_eq]
 omega
def mtS (x y:Nat) (p:Pt):Bool:=decide (x&&& bo p≠0)||decide (y&&& (18446744073709551615 - ko p)≠0)
def shB (L:List Pt):Nat:=L.foldl (fun s p=>s||| bo p) 0
def shK (L:List Pt):Nat:=L.foldl (fun s p=>s||| ko p) 0
theorem Z42 (L:List Pt) (p:Pt):shB (L++ [p])=shB L||| bo p:=by unfold shB;rw [List.foldl_append];rfl
theorem Z43 (L:List Pt) (p:Pt):shK (L++ [p])=shK L||| ko p:=by unfold shK;rw [List.foldl_append];rfl
theorem Zfh {a b:Nat} (h1:a < 18446744073709551616) (h2:b < 18446744073709551616):a||| b < 18446744073709551616:=Nat.or_lt_two_pow (n:=64) h1 h2
theorem Znj (a b c:Nat):decide ((a||| b)&&& c≠0)=(decide (a&&& c≠0)||decide (b&&& c≠0)):=by
 rw [Nat.and_or_distrib_right,Bool.eq_iff_iff]
 simp only [Bool.or_eq_true,decide_eq_true_eq,ne_eq,Nat.or_eq_zero_iff]
 omega
theorem Zfu {P:List Pt→Prop} (h0:P []) (h1:∀ L p,P L→P (L++ [p])):∀ L,P L:=by
 have :∀ L:List Pt,P L.reverse:=by
  intro L
  induction L with
  | nil=>simpa using h0
  | cons a t ih=>rw [List.reverse_cons];exact h1 _ _ ih
 intro L
 have:=this L.reverse
 rwa [List.reverse_reverse]at this
theorem Zc7:∀ (L:List Pt),(∀ q ∈ L,fit q=true)→shB L < 18446744073709551616∧shK L < 18446744073709551616:=by
 refine Zfu ?_ ?_
 · intro _;exact⟨by decide,by decide⟩
 · intro L p ih h
   have:=ih (fun q hq=>h q (by simp [hq]))
   have hp:=h p (by simp)
   rw [Z42,Z43]
   exact⟨Zfh this.1 (Zga hp),Zfh this.2 (by have:=Zgp hp;omega)⟩
theorem Zd0 (p:Pt) (hp:fit p=true):∀ (L:List Pt),(∀ q ∈ L,fit q=true∧q.at'=p.at')→mtS (shB L) (shK L) p=L.any (fun q=>meet q p):=by
 refine Zfu ?_ ?_
 · intro _;simp [mtS,shB,shK]
 · intro L q ih h
   have ih':=ih (fun r hr=>h r (by simp [hr]))
   obtain⟨hq,hs⟩:=h q (by simp)
   rw [List.any_append,← ih']
   unfold mtS
   rw [Z42,Z43,Znj,Znj,Zny hp hq,Zol hp hq]
   have e:meet q p=((q.kind != p.kind)||(decide (q.off < p.off+(p.data.length:Int))&&decide (p.off < q.off+(q.data.length:Int)))):=by unfold meet;rw [hs];simp
   simp only [List.any_cons,List.any_nil,Bool.or_false,e]
   generalize decide (shB L&&& bo p≠0)=a1
   generalize decide (shK L&&& (18446744073709551615 - ko p)≠0)=a2
   generalize (decide (q.off < p.off+(p.data.length:Int))&&decide (p.off < q.off+(q.data.length:Int)))=a3
   generalize (q.kind != p.kind)=a4
   cases a1<;>cases a2<;>cases a3<;>cases a4<;>rfl
set_option maxRecDepth 100000 in
set_option maxHeartbeats 2000000 in
theorem Z82 (p:Pt) (d n:Sv) (w:World) (hp:fit p=true) (hd:d.n=p.data.length):
 Calls Tryz.prog 267 #[.agg (p.cs d n).toArray] w fun e w'=>e= .returned (.int .u64 (bo p:Int))∧Below w.heap.size w w':=by
 obtain⟨f1,f2,f3,f4,f5,f6,f7⟩:=Z13 hp
 have tok:True:=trivial
 go_enter Tryz.func267,Tryz.ntmps267
 go_wp2_with (first
  | (clear tok;refine Z0g (by rfl) _ (by rfl) p d n (by rfl) ?_;intro g1 w1 a1 a2 r1 b1;obtain⟨c0,c1,c2,c3,c4,c5,c6,c7,c8⟩:=Pt.cells r1;clear c0 c1 c4 c5 c6 c7 c8))
 go_region
 go_wp2
 go_returns
 exact⟨Z3l (Zqc p.data.length (by omega) p.off.toNat (by omega) (by omega)),b1.drew⟩
set_option maxRecDepth 100000 in
set_option maxHeartbeats 2000000 in
theorem Z9g (p:Pt) (d n:Sv) (w:World) (hp:fit p=true):
 Calls Tryz.prog 268 #[.agg (p.cs d n).toArray] w fun e w'=>e= .returned (.int .u64 (ko p:Int))∧Below w.heap.size w w':=by
 obtain⟨f1,f2,f3,f4,f5,f6,f7⟩:=Z13 hp
 have tok:True:=trivial
 go_enter Tryz.func268,Tryz.ntmps268
 go_wp2_with (first
  | (clear tok;refine Z0g (by rfl) _ (by rfl) p d n (by rfl) ?_;intro g1 w1 a1 a2 r1 b1;obtain⟨c0,c1,c2,c3,c4,c5,c6,c7,c8⟩:=Pt.cells r1;clear c0 c1 c2 c3 c5 c6 c7 c8))
 go_returns
 exact⟨Z3l (Zqx p.kind.toNat (by omega)),b1⟩
def oB (x:Nat) (p:Pt):Nat:=x||| bo p
def oK (y:Nat) (p:Pt):Nat:=y||| ko p
def shC (x y:Nat):List Value:= [.int .u64 (x:Int), .int .u64 (y:Int)]
theorem Z3a (x y:Nat):∀ v ∈ shC x y,v.oneCell'=true:=by
 intro v hv;unfold shC at hv;simp at hv;rcases hv with h | h<;>subst h<;>rfl
theorem srtS:Srt 279 2 (shC 0 0):=
 ⟨⟨_,Tryz.underlying279,rfl⟩,by kernel_rfl,fun w=>(zero_of_info (v:= .agg (shC 0 0).toArray) (n:=2) (by kernel_rfl)).1 w,rfl,Z3a _ _⟩
set_option maxRecDepth 100000 in
set_option maxHeartbeats 2000000 in
theorem Z97 (x y:Nat) (p:Pt) (d n:Sv) (w:World) (hx:x < 18446744073709551616) (hy:y < 18446744073709551616) (hp:fit p=true) (hd:d.n=p.data.length):
 Calls Tryz.prog 211 #[.agg (shC x y).toArray, .agg (p.cs d n).toArray] w fun e w'=>e= .returned (.agg (shC (oB x p) (oK y p)).toArray)∧Below w.heap.size w w':=by
 have hB:=fun w=>Z82 p d n w hp hd
 have hKd:=fun w=>Z9g p d n w hp
 have l1:=Zga hp
 have l2:=Zgp hp
 have o1:bits .or .u64 (x:Int) (bo p:Int)=(oB x p:Int):=u64_or_nat x (bo p) hx l1
 have o2:bits .or .u64 (y:Int) (ko p:Int)=(oK y p:Int):=u64_or_nat y (ko p) hy (by omega)
 have tok:True:=trivial
 have tok2:True:=trivial
 have tok3:True:=trivial
 go_enter Tryz.func211,Tryz.ntmps211
 go_wp2_with (first
  | (clear tok;refine Z2n 279 (by rfl) _ (by rfl) (shC x y) (by rfl) (Z3a x y) ?_;intro g1 w1 a1 a2 r1 b1)
  | (clear tok2;refine Z0g (by rfl) _ (by rfl) p d n (by rfl) ?_;intro g2 w2 a3 a4 r2 b2)
  | (clear tok3;refine Z28 279 2 _ srtS (by rfl) (by rfl) ?_;intro g3 w3 a5 a6 r3 b3))
 replace r1:=(r1.later b2).later b3
 replace r2:=r2.later b3
 have b9:Below w.heap.size w w3:=Z01 (Z01 b1 b2 (Nat.le_refl _)) b3 (Nat.le_refl _)
 clear hd
 refine Z0n (S:=fun u=>Below w3.heap.size w3 u) _ _ (by simp only [List.pop_toArray,List.dropLast_cons_cons,List.dropLast_singleton];rfl) (by simp only [List.back?_toArray,List.getLast?_cons_cons,List.getLast?_singleton];rfl) (by kernel_rfl) (by kernel_rfl) (Below.refl _ _).drew (fun hHeld=>?_)
 refine tl 0 (.pointer (some ⟨g1,0,none⟩)) rfl ?_
 try simp only [z]
 refine tl 1 (.int .u64 (x:Int)) rfl ?_ (fun u hu=>by have x1:=(r1.later hu).cell 0 _ rfl;go_simp)
 try simp only [z]
 refine tm 2 (.agg (p.cs d n).toArray) rfl
  (Z0w (by rfl) _ (by rfl) g2 (by rfl) p d n (fun u hu=>r2.later hu)) ?_
 try simp only [z]
 refine tl 5 (.pointer (some ⟨g1,1,none⟩)) rfl ?_
 try simp only [z]
 refine tl 6 (.int .u64 (y:Int)) rfl ?_ (fun u hu=>by have x1:=(r1.later hu).cell 1 _ rfl;go_simp)
 try simp only [z]
 refine tm 7 (.agg (p.cs d n).toArray) rfl
  (Z0w (by rfl) _ (by rfl) g2 (by rfl) p d n (fun u hu=>r2.later hu)) ?_
 try simp only [z]
 refine rd 3 rfl (fun K hK=>?_)
 go_simp
 refine(hB _).mono ?_
 rintro e w4 ⟨rfl,q4⟩
 try go_wp2_with fail
 refine hK.out _ _ (Z01 (by assumption) q4 (Nat.le_refl _)) (fun hHeld=>?_)
 clear hK K
 try simp only [z]
 refine tl 4 (.int .u64 (oB x p:Int)) rfl ?_
 try simp only [z]
 refine rd 8 rfl (fun K hK=>?_)
 go_simp
 refine(hKd _).mono ?_
 rintro e w5 ⟨rfl,q5⟩
 try go_wp2_with fail
 refine hK.out _ _ (Z01 (by assumption) q5 (Nat.le_refl _)) (fun hHeld=>?_)
 clear hK K
 try simp only [z]
 refine tl 9 (.int .u64 (oK y p:Int)) rfl ?_
 try simp only [z]
 refine tl 10 (.agg (shC (oB x p) (oK y p)).toArray) rfl ?_ (fun u hu=>by go_simp;rfl)
 try simp only [z]
 refine wpAnyH_done (by kernel_rfl) ?_ _
 have b8:Below w.heap.size w w5:=Z01 b9 hHeld (Nat.le_refl _)
 show wpList _ _ _ [_] _ _
 refine Z1q 279 2 _ srtS (by rfl) _ _ (by rfl) g3 (by rfl) (shC (oB x p) (oK y p)) (by rfl) rfl (Z3a _ _) _ (r3.later hHeld) rfl ?_
 intro w6 r6 s6
 go_wp2_with fail
 refine bodyPost_ret (retC srtS rfl rfl r6 rfl) rfl ⟨rfl,((Stp.of_below b8 (fun _=>False)).next s6 (fun x e=> .inr (by have:=b1.size;have:=b2.size;omega))).below (Nat.le_refl _) (fun x e=>e.elim)⟩
def aB (x:Nat) (p:Pt):Nat:=x&&& bo p
def aK (y:Nat) (p:Pt):Nat:=y&&& (18446744073709551615 - ko p)
set_option maxRecDepth 100000 in
set_option maxHeartbeats 2000000 in
theorem Z76 (x y:Nat) (p:Pt) (d n:Sv) (w:World) (hx:x < 18446744073709551616) (hy:y < 18446744073709551616) (hp:fit p=true) (hd:d.n=p.data.length):
 Calls Tryz.prog 210 #[.agg (shC x y).toArray, .agg (p.cs d n).toArray] w fun e w'=>e= .returned (.bool (mtS x y p))∧Below w.heap.size w w':=by
 have hB:=fun w=>Z82 p d n w hp hd
 have hKd:=fun w=>Z9g p d n w hp
 have l1:=Zga hp
 have l2:=Zgp hp
 have o1:bits .and .u64 (x:Int) (bo p:Int)=(aB x p:Int):=u64_and_nat x (bo p) hx l1
 have o2:bits .andNot .u64 (y:Int) (ko p:Int)=(aK y p:Int):=u64_andNot_nat y (ko p) hy (by omega)
 have tok:True:=trivial
 have tok2:True:=trivial
 clear hd
 go_enter Tryz.func210,Tryz.ntmps210
 go_wp2_with (first
  | (clear tok;refine Z2n 279 (by rfl) _ (by rfl) (shC x y) (by rfl) (Z3a x y) ?_;intro g1 w1 a1 a2 r1 b1)
  | (clear tok2;refine Z0g (by rfl) _ (by rfl) p d n (by rfl) ?_;intro g2 w2 a3 a4 r2 b2))
 replace r1:=r1.later b2
 have b9:Below w.heap.size w w2:=Z01 b1 b2 (Nat.le_refl _)
 by_cases hc:aB x p≠0
 · refine wp_region_held_drew (S:=fun u=>Below w2.heap.size w2 u) (by kernel_rfl) (Below.refl _ _).drew (fun hHeld=>?_)
   refine tl 0 (.pointer (some ⟨g1,0,none⟩)) rfl ?_
   try simp only [z]
   refine tl 1 (.int .u64 (x:Int)) rfl ?_ (fun u hu=>by have x1:=(r1.later hu).cell 0 _ rfl;go_simp)
   try simp only [z]
   refine tm 2 (.agg (p.cs d n).toArray) rfl
    (Z0w (by rfl) _ (by rfl) g2 (by rfl) p d n (fun u hu=>r2.later hu)) ?_
   try simp only [z]
   refine rd 3 rfl (fun K hK=>?_)
   go_simp
   refine(hB _).mono ?_
   rintro e w4 ⟨rfl,q4⟩
   try go_wp2_with fail
   refine hK.out _ _ (Z01 (by assumption) q4 (Nat.le_refl _)) (fun hHeld=>?_)
   clear hK K
   try simp only [z]
   refine tl 4 (.int .u64 (aB x p:Int)) rfl ?_
   try simp only [z]
   refine tl 5 (.bool true) rfl ?_
   try simp only [z]
   refine tl 6 (.bool true) rfl ?_
   try simp only [z]
   refine tm 7 undef rfl
    (Or.inr ⟨by rfl,rfl⟩) ?_
   try simp only [z]
   refine tm 8 undef rfl
    (Or.inr ⟨by rfl,rfl⟩) ?_
   try simp only [z]
   refine tm 9 undef rfl
    (Or.inr ⟨by rfl,rfl⟩) ?_
   try simp only [z]
   refine tm 10 undef rfl
    (Or.inr ⟨by rfl,rfl⟩) ?_
   try simp only [z]
   refine tm 11 undef rfl
    (Or.inr ⟨by rfl,rfl⟩) ?_
   try simp only [z]
   refine tm 12 undef rfl
    (Or.inr ⟨by rfl,rfl⟩) ?_
   try simp only [z]
   refine tl 13 (.bool true) rfl ?_
   try simp only [z]
   refine tl 14 (.bool true) rfl ?_
   try simp only [z]
   refine wpAnyH_done (by kernel_rfl) ?_ _
   go_wp2_with fail
   go_returns
   exact⟨Z0s (by unfold mtS;rw [show x&&& bo p=aB x p from rfl,show y&&& (18446744073709551615 - ko p)=aK y p from rfl];simp [hc]),Z01 b9 hHeld (Nat.le_refl _)⟩
 · refine wp_region_held_drew (S:=fun u=>Below w2.heap.size w2 u) (by kernel_rfl) (Below.refl _ _).drew (fun hHeld=>?_)
   refine tl 0 (.pointer (some ⟨g1,0,none⟩)) rfl ?_
   try simp only [z]
   refine tl 1 (.int .u64 (x:Int)) rfl ?_ (fun u hu=>by have x1:=(r1.later hu).cell 0 _ rfl;go_simp)
   try simp only [z]
   refine tm 2 (.agg (p.cs d n).toArray) rfl
    (Z0w (by rfl) _ (by rfl) g2 (by rfl) p d n (fun u hu=>r2.later hu)) ?_
   try simp only [z]
   refine rd 3 rfl (fun K hK=>?_)
   go_simp
   refine(hB _).mono ?_
   rintro e w4 ⟨rfl,q4⟩
   try go_wp2_with fail
   refine hK.out _ _ (Z01 (by assumption) q4 (Nat.le_refl _)) (fun hHeld=>?_)
   clear hK K
   try simp only [z]
   refine tl 4 (.int .u64 (aB x p:Int)) rfl ?_
   try simp only [z]
   refine tl 5 (.bool false) rfl ?_ (fun u hu=>by go_simp;omega)
   try simp only [z]
   refine tl 6 (.bool false) rfl ?_
   try simp only [z]
   refine tl 7 (.pointer (some ⟨g1,1,none⟩)) rfl ?_
   try simp only [z]
   refine tl 8 (.int .u64 (y:Int)) rfl ?_ (fun u hu=>by have x1:=(r1.later hu).cell 1 _ rfl;go_simp)
   try simp only [z]
   refine tm 9 (.agg (p.cs d n).toArray) rfl
    (Z0w (by rfl) _ (by rfl) g2 (by rfl) p d n (fun u hu=>r2.later hu)) ?_
   try simp only [z]
   refine rd 10 rfl (fun K hK=>?_)
   go_simp
   refine(hKd _).mono ?_
   rintro e w5 ⟨rfl,q5⟩
   try go_wp2_with fail
   refine hK.out _ _ (Z01 (by assumption) q5 (Nat.le_refl _)) (fun hHeld=>?_)
   clear hK K
   try simp only [z]
   refine tl 11 (.int .u64 (aK y p:Int)) rfl ?_
   try simp only [z]
   refine tl 12 (.bool (decide (aK y p≠0))) rfl ?_ (fun u hu=>by go_simp;by_cases h:aK y p=0<;>simp [h])
   try simp only [z]
   refine tl 13 (.bool (decide (aK y p≠0))) rfl ?_
   try simp only [z]
   refine tl 14 (.bool (decide (aK y p≠0))) rfl ?_
   try simp only [z]
   refine wpAnyH_done (by kernel_rfl) ?_ _
   go_wp2_with fail
   go_returns
   exact⟨Z0s (by unfold mtS;rw [show x&&& bo p=aB x p from rfl,show y&&& (18446744073709551615 - ko p)=aK y p from rfl];simp [hc]),Z01 b9 hHeld (Nat.le_refl _)⟩
end Go.Proofs.YtogdffonjhghcaaGreatDoor
