/-
  Texts of my own, joined: no statement is proved here.
-/
import Derived.BigQuiet
import Derived.Test.YtogdffonjhghcaaGreatDoorJbs
set_option linter.unusedSimpArgs false
set_option linter.unusedVariables false
namespace Go.Proofs.YtogdffonjhghcaaGreatDoor
open Go.ChangeShapes Go.WideShapes Go.ChangeAt Go.RowKit
theorem rowG:∃ d,Tryz.prog.underlying 50=some d∧d.isRow=true:=⟨_,Tryz.underlying50,rfl⟩
theorem Zhh:(Tryz.prog.info? 50).map (·.size)=some 3:=by kernel_rfl
theorem Znl:Srt 220 3 [.int .i64 0, .int .i64 0, .int .i64 0]:=
 ⟨⟨_,Tryz.underlying220,rfl⟩,by kernel_rfl,fun w=>(zero_of_info (v:= .agg #[.int .i64 0, .int .i64 0, .int .i64 0]) (n:=3) (by kernel_rfl)).1 w,rfl,by intro v hv;simp at hv;subst hv;rfl⟩
theorem PoI.psL {w w':World} {v:Value} {L:List Pe} {l:List Pt} (h:PoI w w' v L l) (hw:∀ p ∈ l,p.wfp):∃ s:Sv,v= .slice s.a s.n s.c∧PsL w' s l∧Below w.heap.size w w':=by
 have hf:FwI w w' v L:=⟨h.u,fun t ht=>(h.ms t ht).mono (fun x hx=>⟨hx.1.1,hx.1.2,hx.2⟩),fun t ht=>hw t.p (by rw [← h.eq];exact List.mem_map_of_mem ht)⟩
 obtain⟨s,h1,h2,h3⟩:=hf.psL
 refine⟨s,h1,?_,h3⟩
 have:pts L=l:=h.eq
 rw [← this];exact h2
theorem Zq3 {Z:GZ} (h:Z.ok 2000) (s:Int):∀ p ∈ wtP Z.l s,p.wfp:=fun p hp=>h.wfp (List.mem_filter.1 hp).1
theorem of_L {w:World} {g:Nat} {Z:GZ} {E F:Nat→Prop} (H:Gh w g Z E F) (s:Int) (hs:wfi s) (hnl:∀ p ∈ Z.l,p.needs.length≤6):
 Calls Tryz.prog 78 #[.pointer (some ⟨g,0,none⟩), .int .i64 s] w fun e w'=>∃ t:Sv,e= .returned (.slice t.a t.n t.c)∧PsL w' t (wtP Z.l s)∧Below w.heap.size w w':=by
 have hok:=H.ok
 obtain⟨_,_,_,_,H⟩:=H
 refine(Z2t H s hs (fun p hp=>by have:=hnl p hp;omega)).mono ?_
 rintro e w' ⟨v,L,rfl,h⟩
 obtain⟨t,rfl,h1,h2⟩:=h.psL (Zq3 hok s)
 exact⟨t,rfl,h1,h2⟩
theorem Znk {fn:Func} {p:Tmp} {tmps:Array Value} {w:World} {g:Nat} {s:Gm} (h:fn.results=#[.cell p 50]) (hp:tmps.getD p undef= .pointer (some ⟨g,0,none⟩)) (hR:GR w g s):(results fn tmps).run Tryz.prog w= .ok (gv s) w:=by
 have hp':tmps[p]?.getD undef= .pointer (some ⟨g,0,none⟩):=by simpa using hp
 simp [results,h,hp',asAddr,Zc3 hR]
section
variable {u : World} {A : VA} {V : VZ} {U E F T : Nat → Prop} {t k : Nat}
set_option maxRecDepth 100000 in
set_option maxHeartbeats 2000000 in
theorem Zho (H:Vx u A V U E F) (x:Int):
 Calls Tryz.prog 91 #[.pointer (some ⟨A.v,0,none⟩), .int .i64 x] u fun e w'=>e= .returned (.tuple #[.int .i64 (V.s.pg x), .bool (V.hasG x)])∧Below u.heap.size u w':=by
 have hc:=H.c
 have hW:=Z7j V.s x
 unfold VZ.hasG
 unfold VA.cs at hc
 generalize V.s.pk x=K at *
 generalize V.s.pg x=G at *
 generalize V.s.pi x=I at *
 generalize V.s.werr x=e0 at *
 generalize V.s.g=s1 at *
 generalize V.s.i=s2 at *
 generalize V.s.d=s3 at *
 clear H
 go_enter Tryz.func91,Tryz.ntmps91
 go_wp2_with (first
  | (refine Z0d 50 3 rowG Zhh (by rfl) _ (by rfl) A.v 4 (by rfl) _ hc [.int .i64 s1, .int .i64 s2, .int .i64 s3] (by rfl) rfl ?_)
  | (go_at_call 141;refine(hW _).mono ?_;rintro e w1 ⟨rfl,b1⟩;clear hW)
  | (refine Z28 220 3 _ Znl (by rfl) (by rfl) ?_;intro g2 w2 a2 z2 r2 b2)
  | (refine Z1q 220 3 _ Znl (by rfl) _ _ (by rfl) g2 (by rfl) [.int .i64 K, .int .i64 G, .int .i64 I] (by rfl) rfl (by intro v hv;simp at hv;rcases hv with rfl | rfl | rfl<;>rfl) _ r2 (by rfl) ?_;intro w3 r3 s3))
 have c0:=r3.cell 0 _ rfl
 have c1:=r3.cell 1 _ rfl
 have B:Below u.heap.size u w3:=((Stp.of_below (Z01 b1 b2 (Nat.le_refl _)) (fun x=>u.heap.size≤x)).next s3 (fun x hx=> .inl (by subst hx;have:=b1.size;omega))).below (Nat.le_refl _) (fun _ h=>h)
 clear b1 b2 s3 r2 r3 hc
 by_cases h0:e0=0
 · subst h0
   by_cases h1:K=1
   · subst h1
     go_quiet (fail)
     go_wp2_with fail
     go_returns
     exact⟨rfl,((Stp.of_below B (fun _=>False)).drewN _).below (Nat.le_refl _) (fun _ h=>h.elim)⟩
   · have hd:decide (K=1)=false:=by simp [h1]
     go_quiet (fail)
     go_wp2_with fail
     go_returns
     exact⟨by simp [h1],((Stp.of_below B (fun _=>False)).drewN _).below (Nat.le_refl _) (fun _ h=>h.elim)⟩
 · have hd:decide (e0=0)=false:=by simp [h0]
   go_quiet (fail)
   go_wp2_with fail
   go_returns
   exact⟨by simp [h0],((Stp.of_below B (fun _=>False)).drewN _).below (Nat.le_refl _) (fun _ h=>h.elim)⟩
set_option maxRecDepth 100000 in
set_option maxHeartbeats 2000000 in
theorem Zkj (H:Vx u A V U E F):
 Calls Tryz.prog 32 #[.pointer (some ⟨A.v,0,none⟩)] u fun e w'=>e= .returned (gv V.s)∧Below u.heap.size u w':=by
 have hc:=H.c
 unfold VA.cs at hc
 clear H
 go_enter Tryz.func32,Tryz.ntmps32
 go_wp2_with (first
  | (refine Z0r (by rfl) (by rfl) ?_;intro g2 w2 a2 z2 r2 b2)
  | (refine Z0d 50 3 rowG Zhh (by rfl) _ (by rfl) A.v 4 (by rfl) _ (hc.step (Stp.of_below b2 (fun _=>False)) id) [.int .i64 V.s.g, .int .i64 V.s.i, .int .i64 V.s.d] (by rfl) rfl ?_)
  | (refine Z0k (by rfl) _ _ (by rfl) g2 (by rfl) V.s (by rfl) _ r2 ?_;intro w3 r3 s3))
 refine bodyPost_ret (Znk Tryz.results32 rfl r3) rfl ⟨rfl,((Stp.of_below b2 (fun _=>False)).next s3 (fun x e=> .inr (by omega))).below (Nat.le_refl _) (fun x e=>e.elim)⟩
set_option maxRecDepth 100000 in
set_option maxHeartbeats 2000000 in
theorem Z93 (H:Vx u A V U E F) (ok:VOk t k V) (ht:t≤8990) (i:Int) (hi:wfi i) (hT:∀ x,T x↔Vt A U E F x):
 Calls Tryz.prog 17 #[.pointer (some ⟨A.v,0,none⟩), .int .i64 i] u fun e w'=>e= .returned (.tuple #[.agg (V.nowB i).cs.toArray, .int .i64 (V.nowE i)])∧VG A (V.look i) T u w':=by
 have hG:=fun w' (b:Below u.heap.size u w')=>Zis (H.later b).ca ok.c (by omega) i hi
 have hp:=(ok.p.hold i).ex
 have hlt:=H.lt
 have n6:=ok.n6
 have t1:Hid True:=trivial
 unfold VZ.nowB VZ.nowE VZ.look
 by_cases he:V.c.holdE i=0
 · rw [if_pos he,if_pos he]
   rw [he]at hG
   have hgl:=(V.c.got i).len
   generalize V.c.got i=B0 at *
   have hR:=(nwB B0 (wtP V.g.l i)).len
   have hNow:∀ w (s:Sv),PsL w s (wtP V.g.l i)→_:=fun w s h=>Zs3 h B0
   generalize nwB B0 (wtP V.g.l i)=R at *
   generalize nwE (wtP V.g.l i)=e1 at *
   go_enter Tryz.func17,Tryz.ntmps17
   go_wp2_with (first
    | (clear t1;refine Z03 64 64 arrB (by rfl) (by rfl) ?_;intro gr w1 a1 z1 r1 b1
       have H1:=H.later b1
       obtain⟨y0, -, -, -, -, -, -, -⟩:=H1.cells)
    | (go_at_call 76;refine(hG _ b1).mono ?_;rintro e w2 ⟨rfl,k2⟩;clear hG
       obtain⟨U2,H2,s2,g2⟩:=H1.ofC k2 hp
       have r12:=r1.step s2 (fun hx=>by have:=H.ca.lt gr hx;omega)
       clear y0 k2 H1)
    | (refine Z03 64 64 arrB (by rfl) (by rfl) ?_;intro gb w3 a3 z3 r3 b3)
    | (refine Z02 64 64 arrB (by rfl) _ _ (by rfl) gb (by rfl) B0.l (by rfl) hgl _ r3 (by simp) ?_;intro W r4 s4))
   have hw1:=b1.size
   have hw2:=s2.size
   have hgb:gb≠gr:=by omega
   have nU:¬Vt A U2 E F gr:=fun hx=>by
    rcases hx with h | h
    · rcases g2 gr h with e | e
      · have:=H.ca.lt gr e;omega
      · omega
    · have:=hlt gr (.inr h);omega
   have H3:Vx W A { V with c:=V.c.hold i} U2 E F:=(H2.later b3).step s4 (fun x hx e=>by subst e;have:=H2.lt _ hx;omega)
   have r5:Row W gr (List.replicate 64 0):=(r12.later b3).step s4 (fun e=>by omega)
   have S4:Stp T u W:=(((Stp.of_below b1 T).next s2 (fun x hx=> .inl ((hT x).2 (.inl hx)))).trans (Stp.of_below b3 T)).next s4 (fun x hx=> .inr (by subst hx;omega))
   have HV:∀ x,Stp (fun y=>y=gr) W x→Vx x A { V with c:=V.c.hold i} U2 E F:=fun x hx=>H3.step hx (fun y hy e=>by subst e;exact nU hy)
   have gU:∀ x,Vt A U2 E F x→T x∨u.heap.size≤x:=Vt.more hT (fun x hx=>by rcases g2 x hx with e | e;exact .inl e;exact .inr (by omega)) (fun x hx=> .inl hx) (fun x hx=> .inl hx)
   have hgr:u.heap.size≤gr:=a1
   clear r12 r3 s4 b3 r1 H2 s2 g2 b1 hlt nU
   have r5d:Row W.drew gr (List.replicate 64 0):=r5.later (Below.refl _ _).drew
   go_wp2_with fail
   refine wp_region_held_drew (S:=fun u=>Stp (fun x=>x=gr) W u) (by kernel_rfl) (Stp.refl _ _).drew (fun hHeld=>?_)
   refine tm 0 (.agg B0.cs.toArray) rfl
    (Z0e 64 64 arrB (by rfl) (.tmp 6) rfl gb (by rfl) B0.l hgl (fun u hu=>r4.step hu hgb)) ?_
   try simp only [z]
   refine tl 1 (.pointer (some ⟨A.v,0,none⟩)) rfl ?_
   try simp only [z]
   refine tl 2 (.pointer (some ⟨A.v,0,none⟩)) rfl ?_
   try simp only [z]
   refine tl 3 (.pointer (some ⟨A.v,1,none⟩)) rfl ?_
   try simp only [z]
   refine tl 4 (.pointer (some ⟨A.v,1,none⟩)) rfl ?_
   try simp only [z]
   refine tl 5 (.pointer (some ⟨A.g,0,none⟩)) rfl ?_ (fun u hu=>by have x1:=(HV _ hu).cells.2.1;go_simp)
   try simp only [z]
   refine tl 6 (.int .i64 i) rfl ?_
   try simp only [z]
   refine rd 7 rfl (fun K hK=>?_)
   go_simp
   refine(of_L (HV _ hHeld).gh i hi n6).mono ?_
   rintro e v3 ⟨⟨na,nn,nc⟩,rfl,P3,c3⟩
   have yr:=r5d.later c3
   try go_wp2_with fail
   refine hK.out _ _ (hHeld.trans (Stp.of_below c3 _)) (fun hHeld=>?_)
   clear hK K
   try simp only [z]
   refine rd 8 rfl (fun K hK=>?_)
   go_simp
   refine(hNow _ _ P3).mono ?_
   rintro e v4 ⟨rfl,c4⟩
   have yr2:=yr.later c4
   try go_wp2_with fail
   refine hK.out _ _ (hHeld.trans (Stp.of_below c4 _)) (fun hHeld=>?_)
   clear hK K
   try simp only [z]
   refine tl 9 (.agg R.cs.toArray) rfl ?_
   try simp only [z]
   refine tl 10 (.int .i64 e1) rfl ?_
   try simp only [z]
   refine rd 11 rfl (fun K hK=>?_)
   refine Z0h 64 64 arrB rfl (.tmp 4) (.tmp 33) rfl gr (by rfl) R.l (by rfl) hR _ yr2 (by simp) ?_
   intro v7 y7 s7
   refine hK.out _ _ (hHeld.trans s7) (fun hHeld=>?_)
   clear hK K
   try simp only [Act.put]
   refine tl 12 (.int .i64 e1) rfl ?_
   try simp only [z]
   refine wpAnyH_done (by kernel_rfl) ?_ _
   go_wp2_with fail
   refine bodyPost_ret (Z0j arrB Tryz.results17 rfl rfl y7 hR) rfl ⟨rfl,VG.is (HV _ hHeld) (S4.next hHeld (fun x hx=> .inr (by subst hx;exact hgr))) gU⟩
 · rw [if_neg he,if_neg he]
   generalize hE0:V.c.holdE i=e0 at *
   generalize V.c.got i=B0 at *
   have hgl:=B0.len
   clear hE0
   go_enter Tryz.func17,Tryz.ntmps17
   go_wp2_with (first
    | (clear t1;refine Z03 64 64 arrB (by rfl) (by rfl) ?_;intro gr w1 a1 z1 r1 b1
       have H1:=H.later b1
       obtain⟨y0, -, -, -, -, -, -, -⟩:=H1.cells)
    | (go_at_call 76;refine(hG _ b1).mono ?_;rintro e w2 ⟨rfl,k2⟩;clear hG
       obtain⟨U2,H2,s2,g2⟩:=H1.ofC k2 hp
       have r12:=r1.step s2 (fun hx=>by have:=H.ca.lt gr hx;omega)
       clear y0 k2 H1)
    | (refine Z03 64 64 arrB (by rfl) (by rfl) ?_;intro gb w3 a3 z3 r3 b3)
    | (refine Z3h (by rfl) (by rfl) ?_)
    | (refine Z02 64 64 arrB (by rfl) _ _ (by rfl) gb (by rfl) B0.l (by rfl) hgl _ r3 (by simp) ?_;intro W r4 s4
       have r5:Row W gr (List.replicate 64 0):=(r12.later b3).step s4 (fun e=>by have:=s2.size;omega))
    | (refine Z02 64 64 arrB (by rfl) _ _ (by rfl) gr (by rfl) Blk.zero.l (by rfl) Blk.zero.len _ r5 (by simp) ?_;intro W6 r6 s6))
   have hw1:=b1.size
   have hw2:=s2.size
   have hw3:=b3.size
   have nU:¬Vt A U2 E F gr:=fun hx=>by
    rcases hx with h | h
    · rcases g2 gr h with e | e
      · have:=H.ca.lt gr e;omega
      · omega
    · have:=hlt gr (.inr h);omega
   have H3:Vx W A { V with c:=V.c.hold i} U2 E F:=(H2.later b3).step s4 (fun x hx e=>by subst e;have:=H2.lt _ hx;omega)
   have S4:Stp T u W:=(((Stp.of_below b1 T).next s2 (fun x hx=> .inl ((hT x).2 (.inl hx)))).trans (Stp.of_below b3 T)).next s4 (fun x hx=> .inr (by subst hx;omega))
   have gU:∀ x,Vt A U2 E F x→T x∨u.heap.size≤x:=Vt.more hT (fun x hx=>by rcases g2 x hx with e | e;exact .inl e;exact .inr (by omega)) (fun x hx=> .inl hx) (fun x hx=> .inl hx)
   have hgr:u.heap.size≤gr:=a1
   refine bodyPost_ret (Z0j arrB Tryz.results17 rfl rfl r6 Blk.zero.len) rfl ⟨rfl,VG.is (H3.step s6 (fun y hy e=>by subst e;exact nU hy)) (S4.next s6 (fun x hx=> .inr (by subst hx;exact hgr))) gU⟩
end
section
variable {u : World} {A : VA} {V : VZ} {U E F T X : Nat → Prop} {t k : Nat}
set_option maxRecDepth 100000 in
set_option maxHeartbeats 4000000 in
theorem Z6p (H:Vx u A V U E F) (ok:VOk t k V) (ht:t≤8990) (i:Int) (hi:wfi i) (b:Blk) (f:Bool):
 Calls Tryz.prog 222 #[.pointer (some ⟨A.v,0,none⟩), .int .i64 i, .agg b.cs.toArray, .bool f] u fun e w'=>e= .returned (.int .i64 (stoE V.c i b f))∧∃ U',Vx w' A { V with c:=sto V.c i b f} U' E F∧Stp U u w'∧Grew U U' u w':=by
 have hb:=b.len
 unfold stoE sto
 cases f
 · simp only [Bool.false_eq_true,if_false]
   have hP:=fun w' (c:Below u.heap.size u w')=>Zr6 (H.later c).ca ok.c (by omega) i hi b
   have hp1:=(ok.p.put i b).ex
   have hok1:=ok.c.put i b
   have hp2:=((ok.p.put i b).back i).ex
   obtain⟨e0,he0⟩:∃ e,Hid (V.c.holdE i=e):=⟨_,rfl⟩
   rw [he0.out]at hP ⊢
   obtain⟨C1,hC1⟩:∃ c,Hid (V.c.put i b=c):=⟨_,rfl⟩
   rw [hC1.out]at hP hp1 hok1 hp2 ⊢
   go_enter Tryz.func222,Tryz.ntmps222
   go_wp2_with (first
    | (refine Z05 64 64 arrB (by rfl) _ (by rfl) b.l (by rfl) hb ?_;intro g1 w1 a1 z1 r1 b1))
   have H1:=H.later b1
   have ng:¬U g1:=fun hf=>by have:=H.ca.lt g1 hf;omega
   refine wp_region_held_drew (S:=fun x=>Stp U w1 x) (by kernel_rfl) (Stp.refl _ _).drew (fun hHeld=>?_)
   refine tl 0 (.pointer (some ⟨A.v,0,none⟩)) rfl ?_
   try simp only [z]
   refine tl 1 (.pointer (some ⟨A.v,0,none⟩)) rfl ?_
   try simp only [z]
   refine tl 2 (.pointer (some ⟨A.v,0,none⟩)) rfl ?_
   try simp only [z]
   refine tl 3 (.pointer (some ⟨A.c,0,none⟩)) rfl ?_ (fun u hu=>by have x1:=(H1.c.step hu H1.uv.1).cell 0 _ rfl;go_simp)
   try simp only [z]
   refine tl 4 (.int .i64 i) rfl ?_
   try simp only [z]
   refine tm 5 (.agg b.cs.toArray) rfl
    (Z0e 64 64 arrB (by rfl) (.tmp 6) rfl g1 (by rfl) b.l hb (fun u hu=>r1.step hu ng)) ?_
   try simp only [z]
   refine rd 6 rfl (fun K hK=>?_)
   go_simp
   refine(hP _ (Z01 b1 (Below.refl _ _).drew (Nat.le_refl _))).mono ?_
   rintro e v3 ⟨rfl,k3⟩
   try go_wp2_with fail
   refine hK.out _ _ ((Stp.refl U w1).drew.trans k3.stp) (fun hHeld=>?_)
   clear hK K
   try simp only [z]
   refine tl 7 (.int .i64 e0) rfl ?_
   try simp only [z]
   refine wpAnyH_done (by kernel_rfl) ?_ _
   obtain⟨U3,H3,s3,g3⟩:=(H1.later (Below.refl _ _).drew).ofC k3 hp1
   have hsz:w1.drew.heap.size=w1.heap.size:=rfl
   have hs1:=b1.size
   have S3:Stp U u v3:=(Stp.of_below (Z01 b1 (Below.refl _ _).drew (Nat.le_refl _)) U).trans s3
   have G3:Grew U U3 u v3:=fun x hx=>by rcases g3 x hx with e | e;exact .inl e;exact .inr (by omega)
   clear hP r1 H1 k3 s3 g3 hHeld
   by_cases h0:e0=0
   · subst h0
     have hB:=Znx H3.ca hok1 (by omega) i hi
     have y0:=H3.cells.1
     go_wp2_with (first
      | (go_at_call 278;refine hB.mono ?_;rintro e w4 ⟨rfl,k4⟩;clear hB))
     go_returns
     simp only [if_true]
     obtain⟨U4,H4,s4,g4⟩:=H3.ofC k4 hp2
     have hs3:=S3.size
     exact⟨rfl,U4,H4,S3.next s4 (fun x hx=>by rcases G3 x hx with e | e;exact .inl e;exact .inr e.1),G3.trans g4 S3.size s4.size⟩
   · have hd0:¬e0=0:=h0
     go_wp2_with fail
     go_returns
     simp only [if_neg h0]
     exact⟨rfl,U3,H3,S3,G3⟩
 · simp only [if_true]
   have hP:=fun w' (c:Below u.heap.size u w')=>Zls (H.later c).ca ok.c (by omega) i hi b
   have hp1:=(ok.p.force i b).ex
   obtain⟨e0,he0⟩:∃ e,Hid (V.c.forceE i=e):=⟨_,rfl⟩
   rw [he0.out]at hP ⊢
   go_enter Tryz.func222,Tryz.ntmps222
   go_wp2_with (first
    | (refine Z05 64 64 arrB (by rfl) _ (by rfl) b.l (by rfl) hb ?_;intro g1 w1 a1 z1 r1 b1))
   have H1:=H.later b1
   have ng:¬U g1:=fun hf=>by have:=H.ca.lt g1 hf;omega
   refine wp_region_held_drew (S:=fun x=>Stp U w1 x) (by kernel_rfl) (Stp.refl _ _).drew (fun hHeld=>?_)
   refine tl 0 (.pointer (some ⟨A.v,0,none⟩)) rfl ?_
   try simp only [z]
   refine tl 1 (.pointer (some ⟨A.v,0,none⟩)) rfl ?_
   try simp only [z]
   refine tl 2 (.pointer (some ⟨A.v,0,none⟩)) rfl ?_
   try simp only [z]
   refine tl 3 (.pointer (some ⟨A.c,0,none⟩)) rfl ?_ (fun u hu=>by have x1:=(H1.c.step hu H1.uv.1).cell 0 _ rfl;go_simp)
   try simp only [z]
   refine tl 4 (.int .i64 i) rfl ?_
   try simp only [z]
   refine tm 5 (.agg b.cs.toArray) rfl
    (Z0e 64 64 arrB (by rfl) (.tmp 6) rfl g1 (by rfl) b.l hb (fun u hu=>r1.step hu ng)) ?_
   try simp only [z]
   refine rd 6 rfl (fun K hK=>?_)
   go_simp
   refine(hP _ (Z01 b1 (Below.refl _ _).drew (Nat.le_refl _))).mono ?_
   rintro e v3 ⟨rfl,k3⟩
   try go_wp2_with fail
   refine hK.out _ _ ((Stp.refl U w1).drew.trans k3.stp) (fun hHeld=>?_)
   clear hK K
   try simp only [z]
   refine tl 7 (.int .i64 e0) rfl ?_
   try simp only [z]
   refine wpAnyH_done (by kernel_rfl) ?_ _
   obtain⟨U3,H3,s3,g3⟩:=(H1.later (Below.refl _ _).drew).ofC k3 hp1
   have hsz:w1.drew.heap.size=w1.heap.size:=rfl
   have hs1:=b1.size
   have S3:Stp U u v3:=(Stp.of_below (Z01 b1 (Below.refl _ _).drew (Nat.le_refl _)) U).trans s3
   have G3:Grew U U3 u v3:=fun x hx=>by rcases g3 x hx with e | e;exact .inl e;exact .inr (by omega)
   go_wp2_with fail
   go_returns
   exact⟨rfl,U3,H3,S3,G3⟩
end
section
variable {u : World} {A : VA} {V : VZ} {U E F T X : Nat → Prop} {t k : Nat}
theorem Zp5 {w:World} {g:Nat} {Z:GZ} {E F:Nat→Prop} (H:Gh w g Z E F) (s:Int) (hs:wfi s) (hnl:∀ p ∈ Z.l,p.needs.length≤6):
 Calls Tryz.prog 215 #[.pointer (some ⟨g,0,none⟩), .int .i64 s] w fun e w'=>∃ t:Sv,e= .returned (.slice t.a t.n t.c)∧InsS w' t (rdy Z.l s)∧InE (fun x=>w.heap.size≤x∧x < w'.heap.size) t∧Below w.heap.size w w':=by
 have hok:=H.ok
 have hwr:=Zfk hok (by omega) s
 obtain⟨_,_,_,_,H⟩:=H
 refine(Zbf H s hs (fun p hp=>by have:=hnl p hp;omega)).mono ?_
 rintro e w' ⟨v,rfl,o4,n4,b4⟩
 obtain⟨⟨sa,sn,sc⟩,e4,e5,i4,e6⟩:=o4.ins hwr n4
 have e4':v= .slice sa sn sc:=e4
 subst e4'
 exact⟨⟨sa,sn,sc⟩,rfl,i4,e6,b4⟩
set_option maxRecDepth 100000 in
set_option maxHeartbeats 4000000 in
theorem Zhl (H:Vx u A V U E F) (ok:VOk t k V) (ht:t≤8980) (i:Int) (hi:wfi i) (f:Bool) (hT:∀ x,T x↔Vt A U E F x):
 Calls Tryz.prog 149 #[.pointer (some ⟨A.v,0,none⟩), .int .i64 i, .bool f] u fun e w'=>e= .returned (.int .i64 (V.brgE i f))∧VG A (V.brg i f) T u w':=by
 have hG:=Zis H.ca ok.c (by omega) i hi
 have hp:=(ok.p.hold i).ex
 have hlt:=H.lt
 have n6:=ok.n6
 have hok1:VOk (t+1) k (V.look i):=ok.look i
 have hrl:=Zfj H.gh.ok i
 have t1:Hid True:=trivial
 by_cases he:V.c.holdE i=0
 · have hE1:Hid (V.brgE i f=(if stoE (V.c.hold i) i (V.nxt i) f=0 then V.g.wrE (rdy V.g.l i)else stoE (V.c.hold i) i (V.nxt i) f)):=by show _=_;unfold VZ.brgE;rw [if_pos he]
   have hE2:Hid (V.brg i f=(if stoE (V.c.hold i) i (V.nxt i) f=0 then { V with c:=sto (V.c.hold i) i (V.nxt i) f,g:=V.g.wr (rdy V.g.l i)} else { V with c:=sto (V.c.hold i) i (V.nxt i) f})):=by show _=_;unfold VZ.brg;rw [if_pos he]
   rw [he]at hG
   have hgl:=(V.c.got i).len
   have hRl:=(V.nxt i).len
   have hSome:∀ w (s n:Sv),PsL w s (wtP V.g.l i)→InsS w n (rdy V.g.l i)→Calls Tryz.prog 221 #[.agg (V.c.got i).cs.toArray, .slice s.a s.n s.c, .slice n.a n.n n.c] w fun e w'=>∃ e1,e= .returned (.tuple #[.agg (V.nxt i).cs.toArray, .int .i64 e1])∧Below w.heap.size w w':=fun w s n h h2=>(Zrb h h2 (V.c.got i)).mono (fun e w' ⟨h1,h2⟩=>⟨_,h1,h2⟩)
   obtain⟨rE,hrE⟩:∃ r,Hid (V.brgE i f=r):=⟨_,rfl⟩
   rw [hrE.out]
   generalize V.c.got i=B0 at *
   generalize hR0:V.nxt i=R at *
   have hR':Hid (V.nxt i=R):=hR0
   clear hR0
   go_enter Tryz.func149,Tryz.ntmps149
   obtain⟨y0, -, -, -, -, -, -, -⟩:=H.cells
   go_wp2_with (first
    | (go_at_call 76;refine hG.mono ?_;rintro e w2 ⟨rfl,k2⟩;clear hG
       obtain⟨U2,H2,s2,g2⟩:=H.ofC k2 hp
       clear y0 k2)
    | (refine Z03 64 64 arrB (by rfl) (by rfl) ?_;intro gb w3 a3 z3 r3 b3)
    | (refine Z02 64 64 arrB (by rfl) _ _ (by rfl) gb (by rfl) B0.l (by rfl) hgl _ r3 (by simp) ?_;intro W r4 s4
       have H3:Vx W A (V.look i) U2 E F:=(H2.later b3).step s4 (fun x hx e=>by subst e;have:=H2.lt _ hx;omega)
       have y1:=H3.cells.2.1
       have hRd:=Zp5 H3.gh i hi n6)
    | (go_at_call 215;refine hRd.mono ?_;rintro e w4 ⟨⟨na,nn,nc⟩,rfl,i4,e4,b4⟩;clear hRd y1))
   have hw2:=s2.size
   have S3:Stp T u w4:=((((Stp.refl T u).next s2 (fun x hx=> .inl ((hT x).2 (.inl hx)))).trans (Stp.of_below b3 T)).next s4 (fun x hx=> .inr (by subst hx;omega))).trans (Stp.of_below b4 T)
   have gU2:∀ x,U2 x→U x∨u.heap.size≤x:=fun x hx=>by rcases g2 x hx with e | e;exact .inl e;exact .inr e.1
   have r5:=r4.later b4
   have H4:=H3.later b4
   have l2:=H3.lt
   have hw4:=S3.size
   clear r3 r4 s4 b3 s2 g2 H2 H3 b4
   refine wp_region_held_drew (S:=fun x=>Below w4.heap.size w4 x) (by kernel_rfl) (Below.refl _ _).drew (fun hHeld=>?_)
   refine tm 0 (.agg B0.cs.toArray) rfl
    (Z0e 64 64 arrB (by rfl) (.tmp 7) rfl gb (by rfl) B0.l hgl (fun u hu=>r5.later hu)) ?_
   try simp only [z]
   refine tl 1 (.pointer (some ⟨A.v,0,none⟩)) rfl ?_
   try simp only [z]
   refine tl 2 (.pointer (some ⟨A.v,0,none⟩)) rfl ?_
   try simp only [z]
   refine tl 3 (.pointer (some ⟨A.v,1,none⟩)) rfl ?_
   try simp only [z]
   refine tl 4 (.pointer (some ⟨A.v,1,none⟩)) rfl ?_
   try simp only [z]
   refine tl 5 (.pointer (some ⟨A.g,0,none⟩)) rfl ?_ (fun u hu=>by have x1:=(H4.later hu).cells.2.1;go_simp)
   try simp only [z]
   refine tl 6 (.int .i64 i) rfl ?_
   try simp only [z]
   refine tl 8 (.slice na nn nc) rfl ?_
   try simp only [z]
   refine wpAnyH_ready (rs:= [7,13]) (by kernel_rfl) (by simp) ?_
   refine(AllReadyH.cons (o:=⟨some 40, .call { callee:=Callee.value (.func 78),args:=#[.tmp 38, .tmp 39],argTypes:=#[92,3]},120,_,#[⟨5, .data⟩,⟨6, .data⟩],none⟩) rfl (fun K hK=>?_) (AllReadyH.cons (o:=⟨some 10, .alloc 64,0,_,#[],none⟩) rfl (fun K hK=>?_) AllReadyH.nil))
   · skip
     go_simp
     refine(of_L (H4.later hHeld).gh i hi n6).mono ?_
     rintro e v3 ⟨⟨pa,pn,pc⟩,rfl,P3,c3⟩
     try (have y7:=y7.later c3)
     try go_wp2_with fail
     refine hK.out _ _ (Z01 hHeld c3 (Nat.le_refl _)) (fun hHeld=>?_)
     clear hK K
     try simp only [z]
     refine wpAnyH_ready (rs:= [9,13]) (by kernel_rfl) (by simp) ?_
     refine(AllReadyH.cons (o:=⟨some 42, .call { callee:=Callee.value (.func 221),args:=#[.tmp 33, .tmp 40, .tmp 41],argTypes:=#[64,120,54]},65,_,#[⟨0, .data⟩,⟨7, .data⟩,⟨8, .data⟩,⟨7, .chain⟩],none⟩) rfl (fun K hK=>?_) (AllReadyH.cons (o:=⟨some 10, .alloc 64,0,_,#[],none⟩) rfl (fun K hK=>?_) AllReadyH.nil))
     · skip
       go_simp
       refine(hSome _ _ _ P3 (i4.later hHeld)).mono ?_
       rintro e v4 ⟨e1,rfl,c4⟩
       try (have y7:=y7.later c4)
       try go_wp2_with fail
       refine hK.out _ _ (Z01 hHeld c4 (Nat.le_refl _)) (fun hHeld=>?_)
       clear hK K
       try simp only [z]
       refine tl 10 (.tuple #[.agg R.cs.toArray, .int .i64 e1]) rfl ?_
       try simp only [z]
       refine tl 11 (.agg R.cs.toArray) rfl ?_
       try simp only [z]
       refine tl 12 (.int .i64 e1) rfl ?_
       try simp only [z]
       refine rd 13 rfl (fun K hK=>?_)
       refine Z0m 64 64 arrB rfl rfl ?_
       intro g7 v7 a7 z7 y7 b7
       try (have P3:=P3.later b7)
       have m7:w4.heap.size≤g7:=Nat.le_trans hHeld.size a7
       refine hK.out _ _ (Z01 hHeld b7 (Nat.le_refl _)) (fun hHeld=>?_)
       clear hK K
       try simp only [z]
       refine rd 14 rfl (fun K hK=>?_)
       refine Z0h 64 64 arrB rfl (.tmp 10) (.tmp 43) rfl g7 (by rfl) R.l (by rfl) hRl _ y7 (by simp) ?_
       intro v8 y8 s8
       refine hK.out _ _ (((Stp.of_below hHeld (fun x=>w4.heap.size≤x)).next s8 (fun x hx=> .inl (by subst hx;exact m7))).below (Nat.le_refl _) (fun _ h=>h)) (fun hHeld=>?_)
       clear hK K
       try simp only [Act.put]
       refine tl 15 (.int .i64 e1) rfl ?_
       try simp only [z]
       refine wpAnyH_done (by kernel_rfl) ?_ _
       have H5:=H4.later hHeld
       have hSt:=Z6p H5 hok1 (by omega) i hi R f
       have S5:=S3.trans (Stp.of_below hHeld T)
       have i5:=i4.later hHeld
       have e5:=e4.mono (fun x (hx:W.heap.size≤x∧x < w4.heap.size)=>hx.1)
       obtain⟨e0,he0⟩:∃ e0,Hid (stoE (V.look i).c i R f=e0):=⟨_,rfl⟩
       have hr1:Hid (rE=(if e0=0 then V.g.wrE (rdy V.g.l i)else e0)):=by show _=_;rw [← hrE.out,hE1.out,← he0.out];rfl
       have hr2:Hid (V.brg i f=(if e0=0 then { V with c:=sto (V.c.hold i) i R f,g:=V.g.wr (rdy V.g.l i)} else { V with c:=sto (V.c.hold i) i R f})):=by show _=_;rw [hE2.out,← he0.out];rfl
       rw [he0.out]at hSt
       clear hE1 hE2 hrE he0 hHeld i4 e4 S3 H4 r5
       have hU2:∀ x,U2 x→x < W.heap.size:=fun x hx=>l2 x (.inl hx)
       by_cases h0:e0=0
       · subst h0
         have hr1':Hid (rE=V.g.wrE (rdy V.g.l i)):=by show _=_;rw [hr1.out];rfl
         go_wp2_with (first
          | (refine Z04 64 64 arrB (by rfl) _ (by rfl) g7 (by rfl) _ y8 hRl ?_)
          | (go_at_call 222;refine hSt.mono ?_;rintro e w6 ⟨rfl,U6,H6,s6,g6⟩;clear hSt
             have S6:Stp T u w6:=S5.next s6 (fun x hx=>by rcases gU2 x hx with e | e;exact .inl ((hT x).2 (.inl e));exact .inr e)
             have g6':∀ x,U6 x→U x∨u.heap.size≤x:=fun x hx=>by rcases g6 x hx with e | e;exact gU2 x e;exact .inr (by have:=S5.size;omega)
             have i6:=i5.step s6 e5 (fun x hx hu=>by have:=hU2 x hu;omega)
             have hg6:Gh w6 A.g V.g E F:=H6.gh
             have i6':InsS w6 ⟨na,nn,nc⟩ (rdy V.g.l i):=i6
             have hWr:=Z30 hg6 i6' e5 (fun x hx hf=>by have:=l2 x (.inr (.inr (.inl hf)));omega) (by omega) (fun p hp=>by have:=n6 p hp;omega)
             rw [← hr1'.out]at hWr
             have y6:=H6.cells.2.1)
          | (go_at_call 223;refine hWr.mono ?_;rintro e w7 ⟨rfl,q7,s7⟩;clear hWr))
         go_returns
         refine⟨rfl,?_⟩
         have H7:=H6.ofG q7 s7 (Grew.refl _ _ _) (Grew.refl _ _ _)
         rw [hr2.out]
         exact VG.is H7 (S6.next s7 (fun x hx=> .inl ((hT x).2 (.inr (.inr (.inl hx)))))) (Vt.more hT g6' (fun x hx=> .inl hx) (fun x hx=> .inl hx))
       · have hd0:¬e0=0:=h0
         have hr1':Hid (rE=e0):=by show _=_;rw [hr1.out,if_neg h0]
         have hr2':Hid (V.brg i f= { V with c:=sto (V.c.hold i) i R f}):=by show _=_;rw [hr2.out,if_neg h0]
         clear hr1 hr2
         go_wp2_with (first
          | (refine Z04 64 64 arrB (by rfl) _ (by rfl) g7 (by rfl) _ y8 hRl ?_)
          | (go_at_call 222;refine hSt.mono ?_;rintro e w6 ⟨rfl,U6,H6,s6,g6⟩;clear hSt
             have S6:Stp T u w6:=S5.next s6 (fun x hx=>by rcases gU2 x hx with e | e;exact .inl ((hT x).2 (.inl e));exact .inr e)
             have g6':∀ x,U6 x→U x∨u.heap.size≤x:=fun x hx=>by rcases g6 x hx with e | e;exact gU2 x e;exact .inr (by have:=S5.size;omega)))
         go_returns
         refine⟨by rw [hr1'.out];rfl,?_⟩
         rw [hr2'.out]
         exact VG.is H6 S6 (Vt.more hT g6' (fun x hx=> .inl hx) (fun x hx=> .inl hx))
     · skip
       refine Z0m 64 64 arrB rfl rfl ?_
       intro g7 v7 a7 z7 y7 b7
       try (have P3:=P3.later b7)
       have m7:w4.heap.size≤g7:=Nat.le_trans hHeld.size a7
       refine hK.out _ _ (Z01 hHeld b7 (Nat.le_refl _)) (fun hHeld=>?_)
       clear hK K
       try simp only [z]
       refine rd 9 rfl (fun K hK=>?_)
       go_simp
       refine(hSome _ _ _ P3 (i4.later hHeld)).mono ?_
       rintro e v4 ⟨e1,rfl,c4⟩
       try (have y7:=y7.later c4)
       try go_wp2_with fail
       refine hK.out _ _ (Z01 hHeld c4 (Nat.le_refl _)) (fun hHeld=>?_)
       clear hK K
       try simp only [z]
       refine tl 10 (.tuple #[.agg R.cs.toArray, .int .i64 e1]) rfl ?_
       try simp only [z]
       refine tl 11 (.agg R.cs.toArray) rfl ?_
       try simp only [z]
       refine tl 12 (.int .i64 e1) rfl ?_
       try simp only [z]
       refine rd 14 rfl (fun K hK=>?_)
       refine Z0h 64 64 arrB rfl (.tmp 10) (.tmp 43) rfl g7 (by rfl) R.l (by rfl) hRl _ y7 (by simp) ?_
       intro v8 y8 s8
       refine hK.out _ _ (((Stp.of_below hHeld (fun x=>w4.heap.size≤x)).next s8 (fun x hx=> .inl (by subst hx;exact m7))).below (Nat.le_refl _) (fun _ h=>h)) (fun hHeld=>?_)
       clear hK K
       try simp only [Act.put]
       refine tl 15 (.int .i64 e1) rfl ?_
       try simp only [z]
       refine wpAnyH_done (by kernel_rfl) ?_ _
       have H5:=H4.later hHeld
       have hSt:=Z6p H5 hok1 (by omega) i hi R f
       have S5:=S3.trans (Stp.of_below hHeld T)
       have i5:=i4.later hHeld
       have e5:=e4.mono (fun x (hx:W.heap.size≤x∧x < w4.heap.size)=>hx.1)
       obtain⟨e0,he0⟩:∃ e0,Hid (stoE (V.look i).c i R f=e0):=⟨_,rfl⟩
       have hr1:Hid (rE=(if e0=0 then V.g.wrE (rdy V.g.l i)else e0)):=by show _=_;rw [← hrE.out,hE1.out,← he0.out];rfl
       have hr2:Hid (V.brg i f=(if e0=0 then { V with c:=sto (V.c.hold i) i R f,g:=V.g.wr (rdy V.g.l i)} else { V with c:=sto (V.c.hold i) i R f})):=by show _=_;rw [hE2.out,← he0.out];rfl
       rw [he0.out]at hSt
       clear hE1 hE2 hrE he0 hHeld i4 e4 S3 H4 r5
       have hU2:∀ x,U2 x→x < W.heap.size:=fun x hx=>l2 x (.inl hx)
       by_cases h0:e0=0
       · subst h0
         have hr1':Hid (rE=V.g.wrE (rdy V.g.l i)):=by show _=_;rw [hr1.out];rfl
         go_wp2_with (first
          | (refine Z04 64 64 arrB (by rfl) _ (by rfl) g7 (by rfl) _ y8 hRl ?_)
          | (go_at_call 222;refine hSt.mono ?_;rintro e w6 ⟨rfl,U6,H6,s6,g6⟩;clear hSt
             have S6:Stp T u w6:=S5.next s6 (fun x hx=>by rcases gU2 x hx with e | e;exact .inl ((hT x).2 (.inl e));exact .inr e)
             have g6':∀ x,U6 x→U x∨u.heap.size≤x:=fun x hx=>by rcases g6 x hx with e | e;exact gU2 x e;exact .inr (by have:=S5.size;omega)
             have i6:=i5.step s6 e5 (fun x hx hu=>by have:=hU2 x hu;omega)
             have hg6:Gh w6 A.g V.g E F:=H6.gh
             have i6':InsS w6 ⟨na,nn,nc⟩ (rdy V.g.l i):=i6
             have hWr:=Z30 hg6 i6' e5 (fun x hx hf=>by have:=l2 x (.inr (.inr (.inl hf)));omega) (by omega) (fun p hp=>by have:=n6 p hp;omega)
             rw [← hr1'.out]at hWr
             have y6:=H6.cells.2.1)
          | (go_at_call 223;refine hWr.mono ?_;rintro e w7 ⟨rfl,q7,s7⟩;clear hWr))
         go_returns
         refine⟨rfl,?_⟩
         have H7:=H6.ofG q7 s7 (Grew.refl _ _ _) (Grew.refl _ _ _)
         rw [hr2.out]
         exact VG.is H7 (S6.next s7 (fun x hx=> .inl ((hT x).2 (.inr (.inr (.inl hx)))))) (Vt.more hT g6' (fun x hx=> .inl hx) (fun x hx=> .inl hx))
       · have hd0:¬e0=0:=h0
         have hr1':Hid (rE=e0):=by show _=_;rw [hr1.out,if_neg h0]
         have hr2':Hid (V.brg i f= { V with c:=sto (V.c.hold i) i R f}):=by show _=_;rw [hr2.out,if_neg h0]
         clear hr1 hr2
         go_wp2_with (first
          | (refine Z04 64 64 arrB (by rfl) _ (by rfl) g7 (by rfl) _ y8 hRl ?_)
          | (go_at_call 222;refine hSt.mono ?_;rintro e w6 ⟨rfl,U6,H6,s6,g6⟩;clear hSt
             have S6:Stp T u w6:=S5.next s6 (fun x hx=>by rcases gU2 x hx with e | e;exact .inl ((hT x).2 (.inl e));exact .inr e)
             have g6':∀ x,U6 x→U x∨u.heap.size≤x:=fun x hx=>by rcases g6 x hx with e | e;exact gU2 x e;exact .inr (by have:=S5.size;omega)))
         go_returns
         refine⟨by rw [hr1'.out];rfl,?_⟩
         rw [hr2'.out]
         exact VG.is H6 S6 (Vt.more hT g6' (fun x hx=> .inl hx) (fun x hx=> .inl hx))
   · skip
     refine Z0m 64 64 arrB rfl rfl ?_
     intro g7 v7 a7 z7 y7 b7
     try (have P3:=P3.later b7)
     have m7:w4.heap.size≤g7:=Nat.le_trans hHeld.size a7
     refine hK.out _ _ (Z01 hHeld b7 (Nat.le_refl _)) (fun hHeld=>?_)
     clear hK K
     try simp only [z]
     refine rd 7 rfl (fun K hK=>?_)
     go_simp
     refine(of_L (H4.later hHeld).gh i hi n6).mono ?_
     rintro e v3 ⟨⟨pa,pn,pc⟩,rfl,P3,c3⟩
     try (have y7:=y7.later c3)
     try go_wp2_with fail
     refine hK.out _ _ (Z01 hHeld c3 (Nat.le_refl _)) (fun hHeld=>?_)
     clear hK K
     try simp only [z]
     refine rd 9 rfl (fun K hK=>?_)
     go_simp
     refine(hSome _ _ _ P3 (i4.later hHeld)).mono ?_
     rintro e v4 ⟨e1,rfl,c4⟩
     try (have y7:=y7.later c4)
     try go_wp2_with fail
     refine hK.out _ _ (Z01 hHeld c4 (Nat.le_refl _)) (fun hHeld=>?_)
     clear hK K
     try simp only [z]
     refine tl 10 (.tuple #[.agg R.cs.toArray, .int .i64 e1]) rfl ?_
     try simp only [z]
     refine tl 11 (.agg R.cs.toArray) rfl ?_
     try simp only [z]
     refine tl 12 (.int .i64 e1) rfl ?_
     try simp only [z]
     refine rd 14 rfl (fun K hK=>?_)
     refine Z0h 64 64 arrB rfl (.tmp 10) (.tmp 43) rfl g7 (by rfl) R.l (by rfl) hRl _ y7 (by simp) ?_
     intro v8 y8 s8
     refine hK.out _ _ (((Stp.of_below hHeld (fun x=>w4.heap.size≤x)).next s8 (fun x hx=> .inl (by subst hx;exact m7))).below (Nat.le_refl _) (fun _ h=>h)) (fun hHeld=>?_)
     clear hK K
     try simp only [Act.put]
     refine tl 15 (.int .i64 e1) rfl ?_
     try simp only [z]
     refine wpAnyH_done (by kernel_rfl) ?_ _
     have H5:=H4.later hHeld
     have hSt:=Z6p H5 hok1 (by omega) i hi R f
     have S5:=S3.trans (Stp.of_below hHeld T)
     have i5:=i4.later hHeld
     have e5:=e4.mono (fun x (hx:W.heap.size≤x∧x < w4.heap.size)=>hx.1)
     obtain⟨e0,he0⟩:∃ e0,Hid (stoE (V.look i).c i R f=e0):=⟨_,rfl⟩
     have hr1:Hid (rE=(if e0=0 then V.g.wrE (rdy V.g.l i)else e0)):=by show _=_;rw [← hrE.out,hE1.out,← he0.out];rfl
     have hr2:Hid (V.brg i f=(if e0=0 then { V with c:=sto (V.c.hold i) i R f,g:=V.g.wr (rdy V.g.l i)} else { V with c:=sto (V.c.hold i) i R f})):=by show _=_;rw [hE2.out,← he0.out];rfl
     rw [he0.out]at hSt
     clear hE1 hE2 hrE he0 hHeld i4 e4 S3 H4 r5
     have hU2:∀ x,U2 x→x < W.heap.size:=fun x hx=>l2 x (.inl hx)
     by_cases h0:e0=0
     · subst h0
       have hr1':Hid (rE=V.g.wrE (rdy V.g.l i)):=by show _=_;rw [hr1.out];rfl
       go_wp2_with (first
        | (refine Z04 64 64 arrB (by rfl) _ (by rfl) g7 (by rfl) _ y8 hRl ?_)
        | (go_at_call 222;refine hSt.mono ?_;rintro e w6 ⟨rfl,U6,H6,s6,g6⟩;clear hSt
           have S6:Stp T u w6:=S5.next s6 (fun x hx=>by rcases gU2 x hx with e | e;exact .inl ((hT x).2 (.inl e));exact .inr e)
           have g6':∀ x,U6 x→U x∨u.heap.size≤x:=fun x hx=>by rcases g6 x hx with e | e;exact gU2 x e;exact .inr (by have:=S5.size;omega)
           have i6:=i5.step s6 e5 (fun x hx hu=>by have:=hU2 x hu;omega)
           have hg6:Gh w6 A.g V.g E F:=H6.gh
           have i6':InsS w6 ⟨na,nn,nc⟩ (rdy V.g.l i):=i6
           have hWr:=Z30 hg6 i6' e5 (fun x hx hf=>by have:=l2 x (.inr (.inr (.inl hf)));omega) (by omega) (fun p hp=>by have:=n6 p hp;omega)
           rw [← hr1'.out]at hWr
           have y6:=H6.cells.2.1)
        | (go_at_call 223;refine hWr.mono ?_;rintro e w7 ⟨rfl,q7,s7⟩;clear hWr))
       go_returns
       refine⟨rfl,?_⟩
       have H7:=H6.ofG q7 s7 (Grew.refl _ _ _) (Grew.refl _ _ _)
       rw [hr2.out]
       exact VG.is H7 (S6.next s7 (fun x hx=> .inl ((hT x).2 (.inr (.inr (.inl hx)))))) (Vt.more hT g6' (fun x hx=> .inl hx) (fun x hx=> .inl hx))
     · have hd0:¬e0=0:=h0
       have hr1':Hid (rE=e0):=by show _=_;rw [hr1.out,if_neg h0]
       have hr2':Hid (V.brg i f= { V with c:=sto (V.c.hold i) i R f}):=by show _=_;rw [hr2.out,if_neg h0]
       clear hr1 hr2
       go_wp2_with (first
        | (refine Z04 64 64 arrB (by rfl) _ (by rfl) g7 (by rfl) _ y8 hRl ?_)
        | (go_at_call 222;refine hSt.mono ?_;rintro e w6 ⟨rfl,U6,H6,s6,g6⟩;clear hSt
           have S6:Stp T u w6:=S5.next s6 (fun x hx=>by rcases gU2 x hx with e | e;exact .inl ((hT x).2 (.inl e));exact .inr e)
           have g6':∀ x,U6 x→U x∨u.heap.size≤x:=fun x hx=>by rcases g6 x hx with e | e;exact gU2 x e;exact .inr (by have:=S5.size;omega)))
       go_returns
       refine⟨by rw [hr1'.out];rfl,?_⟩
       rw [hr2'.out]
       exact VG.is H6 S6 (Vt.more hT g6' (fun x hx=> .inl hx) (fun x hx=> .inl hx))
 · have hE1:Hid (V.brgE i f=V.c.holdE i):=by show _=_;unfold VZ.brgE;rw [if_neg he]
   have hE2:Hid (V.brg i f=V.look i):=by show _=_;unfold VZ.brg VZ.look;rw [if_neg he]
   rw [hE1.out,hE2.out]
   have hgl:=(V.c.got i).len
   generalize V.c.got i=B0 at *
   generalize hE0:V.c.holdE i=e0 at *
   clear hE0 hE1
   go_enter Tryz.func149,Tryz.ntmps149
   obtain⟨y0, -, -, -, -, -, -, -⟩:=H.cells
   go_wp2_with (first
    | (go_at_call 76;refine hG.mono ?_;rintro e w2 ⟨rfl,k2⟩;clear hG
       obtain⟨U2,H2,s2,g2⟩:=H.ofC k2 hp
       clear y0 k2)
    | (refine Z03 64 64 arrB (by rfl) (by rfl) ?_;intro gb w3 a3 z3 r3 b3)
    | (refine Z02 64 64 arrB (by rfl) _ _ (by rfl) gb (by rfl) B0.l (by rfl) hgl _ r3 (by simp) ?_;intro W r4 s4))
   go_returns
   have hw2:=s2.size
   have H3:Vx W A (V.look i) U2 E F:=(H2.later b3).step s4 (fun x hx e=>by subst e;have:=H2.lt _ hx;omega)
   have S3:Stp T u W:=(((Stp.refl T u).next s2 (fun x hx=> .inl ((hT x).2 (.inl hx)))).trans (Stp.of_below b3 T)).next s4 (fun x hx=> .inr (by subst hx;omega))
   have gU2:∀ x,U2 x→U x∨u.heap.size≤x:=fun x hx=>by rcases g2 x hx with e | e;exact .inl e;exact .inr e.1
   exact⟨rfl,VG.is H3 S3 (Vt.more hT gU2 (fun x hx=> .inl hx) (fun x hx=> .inl hx))⟩
end
end Go.Proofs.YtogdffonjhghcaaGreatDoor
