/-
  Texts of my own, joined: no statement is proved here.
-/
import Derived.Test.YtogdffonjhghcaaGreatDoorJbt
set_option linter.unusedSimpArgs false
set_option linter.unusedVariables false
namespace Go.Proofs.YtogdffonjhghcaaGreatDoor
open Go.ChangeShapes Go.WideShapes Go.ChangeAt Go.RowKit
set_option maxRecDepth 100000
structure WP where
 g6:Nat
 gY:Nat
 yc:Nat
 gp:Nat
 gX:Nat
 gE:Nat
 q:Nat
 A:VA
def WP.cs (P:WP):List Value:=wcs (some ⟨P.A.s,0,none⟩) (some ⟨P.A.d,0,none⟩) (some ⟨P.A.w,0,none⟩) (some ⟨P.A.v,0,none⟩) (some ⟨P.q,0,none⟩) (some ⟨P.gE,0,none⟩) (some ⟨P.gX,0,none⟩) (some ⟨P.gY,0,none⟩)
def WP.yt (P:WP) (K:Nat→Prop):Nat→Prop:=Yt P.gY P.gX P.gp K
structure Wy (W u:World) (P:WP) (V:VZ) (C:CZ) (T K:Nat→Prop):Prop where
 cs:Cs u P.g6 P.cs
 vo:Vo u P.A V T
 ry:Ry u P.gY P.yc P.gp P.gX P.gE P.q C V.w V.s K
 ng:¬T P.g6∧¬P.yt K P.g6
 ap:∀ x,T x→¬P.yt K x
 lo:(∀ x,T x→x=0∨W.heap.size≤x)∧(∀ x,P.yt K x→W.heap.size≤x)∧W.heap.size≤P.g6
 g0:V.g=GZ.new
 z:P.A.z=W.heap[0]?
 bl:Below W.heap.size W u
section
variable {W u u' : World} {P : WP} {V V' : VZ} {C C' : CZ} {T K B : Nat → Prop}
theorem Wz.wy {g6:Nat} {A:VA} {U E F:Nat→Prop} {gY yc gp gX gE q:Nat} (h:Wz W.heap.size u g6 A V U E F gY yc gp gX gE q K) (z:A.z=W.heap[0]?) (b:Below W.heap.size W u):Wy W u ⟨g6,gY,yc,gp,gX,gE,q,A⟩ V V.c (Vt A U E F) K:=
 ⟨h.cs,⟨U,E,F,h.vx,fun _=>Iff.rfl⟩,h.ry,h.ng,h.ap,h.lo,h.g0,z,b⟩
theorem Wy.lt (h:Wy W u P V C T K):P.g6 < u.heap.size∧(∀ y,T y→y < u.heap.size)∧(∀ y,P.yt K y→y < u.heap.size):=
 ⟨h.cs.lt,h.vo.lt,fun y hy=>by
   rcases hy with e | e | e | e
   · exact h.ry.ra.lt y e
   · rw [e];exact h.ry.c.lt
   · rw [e];exact h.ry.rn.c.lt
   · rw [e];obtain⟨a,c,L,r⟩:=h.ry.gh;exact r.cc.lt⟩
theorem Wy.step (h:Wy W u P V C T K) (k:Stp B u u') (h6:¬B P.g6) (hT:∀ y,T y→¬B y) (hY:∀ y,P.yt K y→¬B y) (hB:∀ y,B y→W.heap.size≤y):Wy W u' P V C T K:=
 ⟨h.cs.step k h6,h.vo.step k hT,h.ry.step k hY,h.ng,h.ap,h.lo,h.g0,h.z,((Stp.of_below h.bl (fun x=>W.heap.size≤x)).next k (fun x hx=> .inl (hB x hx))).below (Nat.le_refl _) (fun _ h=>h)⟩
theorem Wy.later (h:Wy W u P V C T K) (k:Below u.heap.size u u'):Wy W u' P V C T K:=h.step (Stp.of_below k (fun _=>False)) id (fun _ _=>id) (fun _ _=>id) (fun _ e=>e.elim)
theorem Wy.own (h:Wy W u P V C T K) {w:World} {x:Nat} (b:Below u.heap.size u w) (hx:u.heap.size≤x) (k:Stp (fun y=>y=x) w u'):Wy W u' P V C T K:=by
 have hl:=h.lt
 refine(h.later b).step k (fun e=>?_) (fun y hy e=>?_) (fun y hy e=>?_) (fun y e=>?_)
 · have:=hl.1;omega
 · have:=hl.2.1 y hy;omega
 · have:=hl.2.2 y hy;omega
 · have:=h.bl.size;omega
theorem Wy.ofV (h:Wy W u P V C T K) (k:VG P.A V' T u u') (hw:V'.w=V.w) (hs:V'.s=V.s) (hg:V'.g=V.g):∃ T',Wy W u' P V' C T' K∧∀ x,T' x→T x∨u.heap.size≤x:=by
 obtain⟨T',h1,h2,h3⟩:=k
 have far:∀ x,T' x→T x∨u.heap.size≤x:=fun x hx=>by rcases h3 x hx with e | e;exact .inl e;exact .inr e.1
 have hl:=h.lt
 have hb:=h.bl.size
 have hz:u'.heap[0]? =P.A.z:=by obtain⟨U,E,F,H,_⟩:=h1;exact H.z0
 refine⟨T',⟨h.cs.step h2 h.ng.1,h1,?_,⟨fun e=>?_,h.ng.2⟩,fun x hx e=>?_,⟨fun x hx=>?_,h.lo.2⟩,hg.trans h.g0,h.z,?_⟩,far⟩
 · rw [hw,hs];exact h.ry.step h2 (fun y hy e=>h.ap y e hy)
 · rcases far _ e with e | e
   · exact h.ng.1 e
   · omega
 · rcases far x hx with e' | e'
   · exact h.ap x e' e
   · have:=hl.2.2 x e;omega
 · rcases far x hx with e | e
   · exact h.lo.1 x e
   · exact .inr (by omega)
 · refine⟨h2.os.trans h.bl.os,h2.tape.trans h.bl.tape,h2.output.trans h.bl.output,Nat.le_trans hb h2.size,fun k hk=>?_⟩
   by_cases hT:T k
   · rcases h.lo.1 k hT with e | e
     · subst e;rw [hz,h.z]
     · omega
   · rw [h2.block k (by omega) hT];exact h.bl.block k hk
theorem Wy.ofR (h:Wy W u P V C T K) (k:Z26 P.yc P.gE P.q C' K u u'):∃ K',Wy W u' P V C' T K':=by
 obtain⟨K',h1,h2,h3⟩:=k
 have far:∀ x,K' x→K x∨u.heap.size≤x:=fun x hx=>by rcases h3 x hx with e | e;exact .inl e;exact .inr e.1
 have hl:=h.lt
 have hb:=h.bl.size
 have hr:=h.ry
 have l1:P.gY < u.heap.size:=hl.2.2 _ (.inr (.inl rfl))
 have l2:P.gX < u.heap.size:=hl.2.2 _ (.inr (.inr (.inl rfl)))
 have l3:P.gp < u.heap.size:=hl.2.2 _ (.inr (.inr (.inr rfl)))
 have ny:∀ x,P.yt K' x→P.yt K x∨u.heap.size≤x:=fun x hx=>by
  rcases hx with e | e
  · rcases far x e with e | e
    · exact .inl (.inl e)
    · exact .inr e
  · exact .inl (.inr e)
 refine⟨K',⟨h.cs.step h2 (fun e=>h.ng.2 (.inl e)),h.vo.step h2 (fun x hx e=>h.ap x hx (.inl e)),⟨hr.c.step h2 hr.nk.1,h1,hr.rn.step h2 hr.nk.2.1,by obtain⟨a,c,L,r⟩:=hr.gh;exact⟨a,c,L,r.step h2 hr.nk.2.2 (fun _ e=>e.elim)⟩,fun e=>?_,fun e=>?_,fun e=>?_⟩,⟨h.ng.1,fun e=>?_⟩,fun x hx e=>?_,⟨h.lo.1,fun x hx=>?_,h.lo.2.2⟩,h.g0,h.z,?_⟩⟩
 · rcases far _ e with e | e
   · exact hr.nk.1 e
   · omega
 · rcases far _ e with e | e
   · exact hr.nk.2.1 e
   · omega
 · rcases far _ e with e | e
   · exact hr.nk.2.2 e
   · omega
 · rcases ny _ e with e | e
   · exact h.ng.2 e
   · omega
 · rcases ny x e with e | e
   · exact h.ap x hx e
   · have:=hl.2.1 x hx;omega
 · rcases ny x hx with e | e
   · exact h.lo.2.1 x e
   · omega
 · exact((Stp.of_below h.bl (fun x=>W.heap.size≤x)).next h2 (fun x hx=> .inl (h.lo.2.1 x (.inl hx)))).below (Nat.le_refl _) (fun _ h=>h)
end
set_option maxRecDepth 100000
def VZ.ldE (V:VZ) (i k:Int):Int:=if V.nowE i=0 then(if gES k (V.nowB i)=0 then 0 else 21)else V.nowE i
def VZ.ldB (V:VZ) (i k:Int):Ld:=if V.nowE i=0 then(if gES k (V.nowB i)=0 then gP k (V.nowB i)else Ld.zero)else Ld.zero
section
variable {u : World} {A : VA} {V V' : VZ} {T : Nat → Prop} {t k : Nat}
theorem VG.own {w1 w2 w7 w9:World} {g:Nat} (hlt:∀ x,T x→x < u.heap.size) (b1:Below u.heap.size u w1) (hg:u.heap.size≤g) (hg1:g < w1.heap.size) (k:VG A V' T w1 w2) (B:Below w2.heap.size w2 w7) (s:Stp (fun x=>x=g) w7 w9):VG A V' T u w9:=by
 obtain⟨T',H,s2,g2⟩:=k
 refine⟨T',(H.later B).step s (fun x hx e=>?_),((((Stp.of_below b1 T).trans s2).trans (Stp.of_below B T)).next s (fun x e=> .inr (by omega))),fun x hx=>?_⟩
 · subst e
   rcases g2 x hx with e | e
   · have:=hlt x e;omega
   · omega
 · rcases g2 x hx with e | e
   · exact .inl e
   · exact .inr ⟨Nat.le_trans b1.size e.1,Nat.lt_of_lt_of_le e.2 (Nat.le_trans B.size s.size)⟩
theorem Z26.own {yc y q:Nat} {C':CZ} {w1 w2 w7 w9:World} {g:Nat} (hlt:∀ x,T x→x < u.heap.size) (b1:Below u.heap.size u w1) (hg:u.heap.size≤g) (hg1:g < w1.heap.size) (k:Z26 yc y q C' T w1 w2) (B:Below w2.heap.size w2 w7) (s:Stp (fun x=>x=g) w7 w9):Z26 yc y q C' T u w9:=by
 obtain⟨T',H,s2,g2⟩:=k
 refine⟨T',(H.later B).step s (fun x hx e=>?_),((((Stp.of_below b1 T).trans s2).trans (Stp.of_below B T)).next s (fun x e=> .inr (by omega))),fun x hx=>?_⟩
 · subst e
   rcases g2 x hx with e | e
   · have:=hlt x e;omega
   · omega
 · rcases g2 x hx with e | e
   · exact .inl e
   · exact .inr ⟨Nat.le_trans b1.size e.1,Nat.lt_of_lt_of_le e.2 (Nat.le_trans B.size s.size)⟩
set_option maxHeartbeats 4000000 in
theorem Zkk (h:Vo u A V T) (ok:VOk t k V) (ht:t≤8990) (i kd:Int) (hi:wfi i):
 Calls Tryz.prog 10 #[.pointer (some ⟨A.v,0,none⟩), .int .i64 i, .int .i64 kd] u fun e w'=>e= .returned (.tuple #[.agg (V.ldB i kd).cs.toArray, .int .i64 (V.ldE i kd)])∧VG A (V.look i) T u w':=by
 have hN:∀ w',Below u.heap.size u w'→Calls Tryz.prog 17 #[.pointer (some ⟨A.v,0,none⟩), .int .i64 i] w' fun e w2=>e= .returned (.tuple #[.agg (V.nowB i).cs.toArray, .int .i64 (V.nowE i)])∧VG A (V.look i) T w' w2:=fun w' b=>by
  obtain⟨U,E,F,H,hT⟩:=h.later b
  exact Z93 H ok ht i hi hT
 have hlt:=h.lt
 unfold VZ.ldE VZ.ldB
 generalize V.nowB i=B0 at *
 generalize V.nowE i=e1 at *
 have t1:Hid True:=trivial
 have hFin:∀ {w1 w2 w3 w4 w9:World} {gr gb:Nat},Below u.heap.size u w1→VG A (V.look i) T w1 w2→Below w2.heap.size w2 w3→w2.heap.size≤gb→Stp (fun y=>y=gb) w3 w4→u.heap.size≤gr→gr < w1.heap.size→Stp (fun y=>y=gr) w4 w9→VG A (V.look i) T u w9:=fun b1 k2 b3 hb s4 a1 z1 s9=>VG.own hlt b1 a1 z1 k2 (((Stp.of_below b3 (fun _=>False)).next s4 (fun x e=> .inr (by omega))).below (Nat.le_refl _) (fun x e=>e.elim)) s9
 have hB:=B0.len
 by_cases he:e1=0
 · subst he
   rw [if_pos rfl,if_pos rfl]
   have hGB:=fun w'=>Z3f kd B0 w'
   by_cases hg:gES kd B0=0
   · rw [if_pos hg,if_pos hg]
     rw [hg]at hGB
     have hL:=(gP kd B0).len
     generalize gP kd B0=L0 at *
     generalize gT kd B0=T0 at *
     clear hg
     go_enter Tryz.func10,Tryz.ntmps10
     go_wp2_with (first
      | (clear t1;refine Z03 41 54 arrL (by rfl) (by rfl) ?_;intro gr w1 a1 z1 r1 b1)
      | (go_at_call 17;refine(hN _ b1).mono ?_;rintro e w2 ⟨rfl,k2⟩;clear hN
         have s2:=k2.stp
         have r2:=r1.step s2 (fun e=>by have:=hlt _ e;omega))
      | (refine Z03 64 64 arrB (by rfl) (by rfl) ?_;intro gb w3 a3 z3 r3 b3)
      | (refine Z02 64 64 arrB (by rfl) _ _ (by rfl) gb (by rfl) B0.l (by rfl) hB _ r3 (by simp) ?_;intro w4 r4 s4)
      | (refine Z04 64 64 arrB (by rfl) _ (by rfl) gb (by rfl) _ r4 hB ?_)
      | (go_at_call 50;refine(hGB _).mono ?_;rintro e w5 ⟨rfl,b5⟩;clear hGB)
      | (refine Z03 41 54 arrL (by rfl) (by rfl) ?_;intro gl w6 a6 z6 r6 b6)
      | (refine Z02 41 54 arrL (by rfl) _ _ (by rfl) gl (by rfl) L0.l (by rfl) hL _ r6 (by simp) ?_;intro w7 r7 s7
         have r8:Row w7 gr _:=((((r2.later b3).step s4 (fun e=>by have:=s2.size;omega)).later b5).later b6).step s7 (fun e=>by have:=s2.size;have:=b3.size;have:=s4.size;have:=b5.size;omega))
      | (refine Z04 41 54 arrL (by rfl) _ (by rfl) gl (by rfl) _ r7 hL ?_)
      | (refine Z02 41 54 arrL (by rfl) _ _ (by rfl) gr (by rfl) L0.l (by rfl) hL _ r8 (by simp) ?_;intro w9 r9 s9))
     have k3:=b3.size
     have k4:=s4.size
     have k5:=b5.size
     have k6:=b6.size
     have B6:Below w2.heap.size w2 w6:=((Stp.of_below b3 (fun _=>False)).next s4 (fun x e=> .inr (by omega))).trans (Stp.of_below (Z01 b5 b6 (Nat.le_refl _)) _) |>.below (Nat.le_refl _) (fun _ h=>h.elim)
     exact bodyPost_ret (Z0j arrL Tryz.results10 rfl rfl r9 hL) rfl ⟨rfl,hFin b1 k2 B6 (by omega) s7 a1 z1 s9⟩
   · rw [if_neg hg,if_neg hg]
     have hL:=(gP kd B0).len
     have hZ:=Ld.zero.len
     obtain⟨e2,he2⟩:∃ e,Hid (gES kd B0=e):=⟨_,rfl⟩
     rw [he2.out]at hGB hg
     have hd0:¬e2=0:=hg
     generalize gP kd B0=L0 at *
     generalize gT kd B0=T0 at *
     clear he2 hg
     go_enter Tryz.func10,Tryz.ntmps10
     go_wp2_with (first
      | (clear t1;refine Z03 41 54 arrL (by rfl) (by rfl) ?_;intro gr w1 a1 z1 r1 b1)
      | (go_at_call 17;refine(hN _ b1).mono ?_;rintro e w2 ⟨rfl,k2⟩;clear hN
         have s2:=k2.stp
         have r2:=r1.step s2 (fun e=>by have:=hlt _ e;omega))
      | (refine Z03 64 64 arrB (by rfl) (by rfl) ?_;intro gb w3 a3 z3 r3 b3)
      | (refine Z02 64 64 arrB (by rfl) _ _ (by rfl) gb (by rfl) B0.l (by rfl) hB _ r3 (by simp) ?_;intro w4 r4 s4)
      | (refine Z04 64 64 arrB (by rfl) _ (by rfl) gb (by rfl) _ r4 hB ?_)
      | (go_at_call 50;refine(hGB _).mono ?_;rintro e w5 ⟨rfl,b5⟩;clear hGB)
      | (refine Z03 41 54 arrL (by rfl) (by rfl) ?_;intro gl w6 a6 z6 r6 b6)
      | (refine Z02 41 54 arrL (by rfl) _ _ (by rfl) gl (by rfl) L0.l (by rfl) hL _ r6 (by simp) ?_;intro w7 r7 s7
         have r8:Row w7 gr _:=((((r2.later b3).step s4 (fun e=>by have:=s2.size;omega)).later b5).later b6).step s7 (fun e=>by have:=s2.size;have:=b3.size;have:=s4.size;have:=b5.size;omega))
      | (refine Z0x (by rfl) (by rfl) ?_)
      | (refine Z02 41 54 arrL (by rfl) _ _ (by rfl) gr (by rfl) Ld.zero.l (by rfl) hZ _ r8 (by simp) ?_;intro w9 r9 s9))
     have k3:=b3.size
     have k4:=s4.size
     have k5:=b5.size
     have k6:=b6.size
     have B6:Below w2.heap.size w2 w6:=((Stp.of_below b3 (fun _=>False)).next s4 (fun x e=> .inr (by omega))).trans (Stp.of_below (Z01 b5 b6 (Nat.le_refl _)) _) |>.below (Nat.le_refl _) (fun _ h=>h.elim)
     exact bodyPost_ret (Z0j arrL Tryz.results10 rfl rfl r9 hZ) rfl ⟨rfl,hFin b1 k2 B6 (by omega) s7 a1 z1 s9⟩
 · rw [if_neg he,if_neg he]
   have hd0:¬e1=0:=he
   have hZ:=Ld.zero.len
   clear he
   go_enter Tryz.func10,Tryz.ntmps10
   go_wp2_with (first
    | (clear t1;refine Z03 41 54 arrL (by rfl) (by rfl) ?_;intro gr w1 a1 z1 r1 b1)
    | (go_at_call 17;refine(hN _ b1).mono ?_;rintro e w2 ⟨rfl,k2⟩;clear hN
       have s2:=k2.stp
       have r2:=r1.step s2 (fun e=>by have:=hlt _ e;omega))
    | (refine Z03 64 64 arrB (by rfl) (by rfl) ?_;intro gb w3 a3 z3 r3 b3)
    | (refine Z02 64 64 arrB (by rfl) _ _ (by rfl) gb (by rfl) B0.l (by rfl) hB _ r3 (by simp) ?_;intro w4 r4 s4
       have r8:Row w4 gr _:=(r2.later b3).step s4 (fun e=>by have:=s2.size;omega))
    | (refine Z0x (by rfl) (by rfl) ?_)
    | (refine Z02 41 54 arrL (by rfl) _ _ (by rfl) gr (by rfl) Ld.zero.l (by rfl) hZ _ r8 (by simp) ?_;intro w9 r9 s9))
   exact bodyPost_ret (Z0j arrL Tryz.results10 rfl rfl r9 hZ) rfl ⟨rfl,hFin b1 k2 b3 a3 s4 a1 z1 s9⟩
end
section
variable {u : World} {gY yc gp gX gE q : Nat} {C : CZ} {x : WS} {s : Gm} {K : Nat → Prop} {t : Nat}
theorem Rh.none {w:World} {g:Nat} {R:Nat→Prop} (H:Rh w g GZ.new R):∃ a c,w.cell? ⟨g,1,none⟩=some (.slice a 0 c):=by
 obtain⟨a,c,L,H⟩:=H
 have hL:L= []:=List.eq_nil_of_length_eq_zero H.len
 subst hL
 exact⟨a,c,H.cells.2⟩
theorem Zpf {w:World} {g:Nat} {R:Nat→Prop} (H:Rh w g GZ.new R) (s:Int):
 Calls Tryz.prog 114 #[.pointer (some ⟨g,0,none⟩), .int .i64 s] w fun e w'=>∃ a,e= .returned (.slice a 0 0)∧Below w.heap.size w w':=by
 obtain⟨a,c,y1⟩:=H.none
 have y2:∀ o,(w.alloc o).cell? ⟨g,1,none⟩=some (.slice a 0 c):=fun o=>(Stp.of_below ((Below.refl w.heap.size w).alloc (Nat.le_refl _) o) (fun _=>False)).cell y1 id
 go_enter Tryz.func114,Tryz.ntmps114
 go_wp2_with fail
 refine wp_loop_rounds 1 ?_
 rw [rounds_succ]
 go_wp2
 go_returns
 exact⟨_,rfl,(Below.refl _ w).alloc (Nat.le_refl _) _⟩
theorem Zmi {w:World} {g:Nat} {R:Nat→Prop} (H:Rh w g GZ.new R):
 Calls Tryz.prog 59 #[.pointer (some ⟨g,0,none⟩)] w fun e w'=>∃ a,e= .returned (.slice a 0 0)∧Below w.heap.size w w':=by
 obtain⟨a,c,y1⟩:=H.none
 have y2:∀ o,(w.alloc o).cell? ⟨g,1,none⟩=some (.slice a 0 c):=fun o=>(Stp.of_below ((Below.refl w.heap.size w).alloc (Nat.le_refl _) o) (fun _=>False)).cell y1 id
 go_enter Tryz.func59,Tryz.ntmps59
 go_wp2_with fail
 refine wp_loop_rounds 1 ?_
 rw [rounds_succ]
 go_wp2
 go_returns
 exact⟨_,rfl,(Below.refl _ w).alloc (Nat.le_refl _) _⟩
theorem Zdl {w:World} {g:Nat} {R:Nat→Prop} (H:Rh w g GZ.new R):
 Calls Tryz.prog 61 #[.pointer (some ⟨g,0,none⟩)] w fun e w'=>∃ a,e= .returned (.slice a 0 0)∧Below w.heap.size w w':=by
 obtain⟨a,c,y1⟩:=H.none
 have y2:∀ o,(w.alloc o).cell? ⟨g,1,none⟩=some (.slice a 0 c):=fun o=>(Stp.of_below ((Below.refl w.heap.size w).alloc (Nat.le_refl _) o) (fun _=>False)).cell y1 id
 go_enter Tryz.func61,Tryz.ntmps61
 go_wp2_with fail
 refine wp_loop_rounds 1 ?_
 rw [rounds_succ]
 go_wp2
 go_returns
 exact⟨_,rfl,(Below.refl _ w).alloc (Nat.le_refl _) _⟩
theorem Zjv (b:Blk) (a:Option Addr) (c:Nat) (w:World):
 Calls Tryz.prog 113 #[.agg b.cs.toArray, .slice a 0 c] w fun e w'=>e= .returned (.tuple #[.agg b.cs.toArray, .int .i64 0])∧Below w.heap.size w w':=by
 have hb:=b.len
 have t1:Hid True:=trivial
 go_enter Tryz.func113,Tryz.ntmps113
 go_wp2_with (first
  | (refine Z05 64 64 arrB (by rfl) _ (by rfl) b.l (by rfl) hb ?_;intro g1 w1 a1 z1 r1 b1)
  | (clear t1;refine Z03 64 64 arrB (by rfl) (by rfl) ?_;intro g2 w2 a2 z2 r2 b2)
  | (refine Z04 64 64 arrB (by rfl) _ (by rfl) g1 (by rfl) _ (r1.later b2) hb ?_)
  | (refine Z03 64 64 arrB (by rfl) (by rfl) ?_;intro g3 w3 a3 z3 r3 b3)
  | (refine Z02 64 64 arrB (by rfl) _ _ (by rfl) g3 (by rfl) b.l (by rfl) hb _ r3 (by simp) ?_;intro w4 r4 s4))
 have k1:=b1.size
 have k2:=b2.size
 have k3:=b3.size
 have r5:=(r2.later b3).step s4 (fun e=>by omega)
 refine wp_loop_rounds 1 ?_
 rw [rounds_succ]
 go_wp2_with (first
  | (refine Z04 64 64 arrB (by rfl) _ (by rfl) g3 (by rfl) _ r4 hb ?_)
  | (refine Z02 64 64 arrB (by rfl) _ _ (by rfl) g2 (by rfl) b.l (by rfl) hb _ r5 (by simp) ?_;intro w6 r6 s6))
 exact bodyPost_ret (Z0j arrB Tryz.results113 rfl rfl r6 hb) rfl ⟨rfl,(((Stp.of_below (Z01 (Z01 b1 b2 (Nat.le_refl _)) b3 (Nat.le_refl _)) (fun _=>False)).next s4 (fun x e=> .inr (by omega))).next s6 (fun x e=> .inr (by omega))).below (Nat.le_refl _) (fun x e=>e.elim)⟩
theorem Zdi {w:World} {g q:Nat} {x:WS} (h:Rn w g x q) (hb:x.b < 256) (hr:x.c=sm x.a x.b):
 Calls Tryz.prog 53 #[.pointer (some ⟨g,0,none⟩)] w fun e w'=>e= .returned (.tuple #[.int .u32 (x.says:Nat), .bool x.right])∧Below w.heap.size w w':=by
 have hS:=fun w'=>Zbi x.a x.b w' h.l0 h.l1
 have hc:=fun w' (b:Below w.heap.size w w')=>(h.later b).c
 have e1:x.right=true:=by unfold WS.right;simp [hr]
 have e2:x.says=x.b:=by unfold WS.says;rw [e1];simp;omega
 rw [e1,e2,← hr]at *
 have hlt:=h.c.lt
 clear e1 e2 hr
 go_enter Tryz.func53,Tryz.ntmps53
 go_wp2_with fail
 refine wp_region_held_drew (S:=fun u=>Below w.heap.size w u) (by kernel_rfl) (Below.refl _ _).drew (fun hHeld=>?_)
 refine tl 0 (.pointer (some ⟨g,0,none⟩)) rfl ?_
 try simp only [z]
 refine tl 1 (.pointer (some ⟨g,0,none⟩)) rfl ?_
 try simp only [z]
 refine tl 2 (.pointer (some ⟨g,1,none⟩)) rfl ?_
 try simp only [z]
 refine tl 3 (.pointer (some ⟨g,3,none⟩)) rfl ?_
 try simp only [z]
 refine tl 4 (.int .u32 (x.c:Nat)) rfl ?_ (fun u hu=>by have x1:=(hc _ hu).cell 3 _ rfl;go_simp)
 try simp only [z]
 refine tl 5 (.pointer (some ⟨g,0,none⟩)) rfl ?_
 try simp only [z]
 refine tl 6 (.pointer (some ⟨g,0,none⟩)) rfl ?_
 try simp only [z]
 refine tl 7 (.pointer (some ⟨g,1,none⟩)) rfl ?_
 try simp only [z]
 refine tl 8 (.pointer (some ⟨g,1,none⟩)) rfl ?_
 try simp only [z]
 refine tl 9 (.int .u32 (x.a:Nat)) rfl ?_ (fun u hu=>by have x1:=(hc _ hu).cell 1 _ rfl;go_simp)
 try simp only [z]
 refine tl 10 (.pointer (some ⟨g,0,none⟩)) rfl ?_
 try simp only [z]
 refine tl 11 (.pointer (some ⟨g,0,none⟩)) rfl ?_
 try simp only [z]
 refine tl 12 (.pointer (some ⟨g,1,none⟩)) rfl ?_
 try simp only [z]
 refine tl 13 (.pointer (some ⟨g,2,none⟩)) rfl ?_
 try simp only [z]
 refine tl 14 (.int .u32 (x.b:Nat)) rfl ?_ (fun u hu=>by have x1:=(hc _ hu).cell 2 _ rfl;go_simp)
 try simp only [z]
 refine rd 15 rfl (fun K hK=>?_)
 go_simp
 refine(hS _).mono ?_
 rintro e v15 ⟨rfl,c15⟩
 try go_wp2_with fail
 refine hK.out _ _ (Z01 hHeld c15 (Nat.le_refl _)) (fun hHeld=>?_)
 clear hK K
 try simp only [z]
 refine tl 16 (.bool false) rfl ?_
 try simp only [z]
 refine wpAnyH_done (by kernel_rfl) ?_ _
 have y2:=(hc _ hHeld).cell 2 _ rfl
 go_wp2_with fail
 go_returns
 exact⟨rfl,hHeld⟩
def CZ.nwE (C:CZ) (i:Int):Int:=C.holdE i
def CZ.nwB (C:CZ) (i:Int):Blk:=if C.holdE i=0 then C.got i else Blk.zero
set_option maxHeartbeats 4000000 in
theorem Zbl (h:Ry u gY yc gp gX gE q C x s K) (ok:C.ok t) (ht:t≤9000) (i:Int) (hi:wfi i):
 Calls Tryz.prog 51 #[.pointer (some ⟨gY,0,none⟩), .int .i64 i] u fun e w'=>e= .returned (.tuple #[.agg (C.nwB i).cs.toArray, .int .i64 (C.nwE i)])∧Z26 yc gE q (C.hold i) K u w':=by
 have hG:=fun w' (b:Below u.heap.size u w')=>Zpb (h.ra.later b) ok ht i hi
 have hlt:=h.ra.lt
 have hB:=(C.got i).len
 have hZ:=Blk.zero.len
 have t1:Hid True:=trivial
 unfold CZ.nwE CZ.nwB
 generalize C.got i=B0 at *
 by_cases he:C.holdE i=0
 · rw [if_pos he,he]
   rw [he]at hG
   go_enter Tryz.func51,Tryz.ntmps51
   go_wp2_with (first
    | (clear t1;refine Z03 64 64 arrB (by rfl) (by rfl) ?_;intro gr w1 a1 z1 r1 b1
       have y5:=(h.c.step (Stp.of_below b1 (fun _=>False)) id).cell 5 _ rfl)
    | (go_at_call 112;refine(hG _ b1).mono ?_;rintro e w2 ⟨rfl,k2⟩;clear hG y5
       obtain⟨K2,ra2,s2,g2⟩:=k2
       have r2:=r1.step s2 (fun e=>by have:=hlt _ e;omega))
    | (refine Z03 64 64 arrB (by rfl) (by rfl) ?_;intro gb w3 a3 z3 r3 b3)
    | (refine Z02 64 64 arrB (by rfl) _ _ (by rfl) gb (by rfl) B0.l (by rfl) hB _ r3 (by simp) ?_;intro W r4 s4))
   have k1:=b1.size
   have k2:=s2.size
   have hgb:gb≠gr:=by omega
   have r5:Row W gr (List.replicate 64 0):=(r2.later b3).step s4 (fun e=>by omega)
   have lY:gY < u.heap.size:=h.c.lt
   have lp:gp < u.heap.size:=by obtain⟨a,c,L,r⟩:=h.gh;exact r.cc.lt
   have B4:Below w2.heap.size w2 W:=((Stp.of_below b3 (fun _=>False)).next s4 (fun x e=> .inr (by omega))).below (Nat.le_refl _) (fun x e=>e.elim)
   have cW:Cs W gY _:=((h.c.step (Stp.of_below b1 (fun _=>False)) id).step s2 h.nk.1).step (Stp.of_below B4 (fun _=>False)) id
   have gW:Rh W gp GZ.new (fun _=>False):=by
    obtain⟨a,c,L,r⟩:=h.gh
    exact⟨a,c,L,((r.later b1).step s2 h.nk.2.2 (fun _ e=>e.elim)).later B4⟩
   refine wp_region_held_drew (S:=fun u=>Stp (fun x=>x=gr) W u) (by kernel_rfl) (Stp.refl _ _).drew (fun hHeld=>?_)
   refine tm 0 (.agg B0.cs.toArray) rfl
    (Z0e 64 64 arrB (by rfl) (.tmp 6) rfl gb (by rfl) B0.l hB (fun u hu=>r4.step hu hgb)) ?_
   try simp only [z]
   refine tl 1 (.pointer (some ⟨gY,0,none⟩)) rfl ?_
   try simp only [z]
   refine tl 2 (.pointer (some ⟨gY,0,none⟩)) rfl ?_
   try simp only [z]
   refine tl 3 (.pointer (some ⟨gY,6,none⟩)) rfl ?_
   try simp only [z]
   refine tl 4 (.pointer (some ⟨gp,0,none⟩)) rfl ?_ (fun u hu=>by have x1:=(cW.step hu (fun e=>by omega)).cell 6 _ rfl;go_simp)
   try simp only [z]
   refine tl 5 (.int .i64 i) rfl ?_
   try simp only [z]
   refine rd 6 rfl (fun K hK=>?_)
   go_simp
   refine(Zpf (by obtain⟨a,c,L,r⟩:=gW;exact⟨a,c,L,r.later (Below.refl _ _).drew⟩) i).mono ?_
   rintro e v3 ⟨na,rfl,c3⟩
   have yr:=(r5.later (Below.refl _ _).drew).later c3
   try go_wp2_with fail
   refine hK.out _ _ ((Stp.refl _ _).drew.trans (Stp.of_below c3 _)) (fun hHeld=>?_)
   clear hK K
   try simp only [z]
   refine rd 7 rfl (fun K hK=>?_)
   go_simp
   refine(Zjv B0 na 0 _).mono ?_
   rintro e v4 ⟨rfl,c4⟩
   have yr2:=yr.later c4
   try go_wp2_with fail
   refine hK.out _ _ (hHeld.trans (Stp.of_below c4 _)) (fun hHeld=>?_)
   clear hK K
   try simp only [z]
   refine tl 8 (.agg B0.cs.toArray) rfl ?_
   try simp only [z]
   refine tl 9 (.int .i64 0) rfl ?_
   try simp only [z]
   refine rd 10 rfl (fun K hK=>?_)
   refine Z0h 64 64 arrB rfl (.tmp 4) (.tmp 29) rfl gr (by rfl) B0.l (by rfl) hB _ yr2 (by simp) ?_
   intro v7 y7 s7
   refine hK.out _ _ (hHeld.trans s7) (fun hHeld=>?_)
   clear hK K
   try simp only [Act.put]
   refine tl 11 (.int .i64 0) rfl ?_
   try simp only [z]
   refine wpAnyH_done (by kernel_rfl) ?_ _
   go_wp2_with fail
   exact bodyPost_ret (Z0j arrB Tryz.results51 rfl rfl y7 hB) rfl ⟨rfl,Z26.own hlt b1 a1 z1 ⟨K2,ra2,s2,g2⟩ B4 hHeld⟩
 · obtain⟨e1,he1⟩:∃ e,Hid (C.holdE i=e):=⟨_,rfl⟩
   rw [if_neg he]
   rw [he1.out]at hG he ⊢
   have hd0:¬e1=0:=he
   go_enter Tryz.func51,Tryz.ntmps51
   go_wp2_with (first
    | (clear t1;refine Z03 64 64 arrB (by rfl) (by rfl) ?_;intro gr w1 a1 z1 r1 b1
       have y5:=(h.c.step (Stp.of_below b1 (fun _=>False)) id).cell 5 _ rfl)
    | (go_at_call 112;refine(hG _ b1).mono ?_;rintro e w2 ⟨rfl,k2⟩;clear hG y5
       obtain⟨K2,ra2,s2,g2⟩:=k2
       have r2:=r1.step s2 (fun e=>by have:=hlt _ e;omega))
    | (refine Z03 64 64 arrB (by rfl) (by rfl) ?_;intro gb w3 a3 z3 r3 b3)
    | (refine Z3h (by rfl) (by rfl) ?_)
    | (refine Z02 64 64 arrB (by rfl) _ _ (by rfl) gb (by rfl) B0.l (by rfl) hB _ r3 (by simp) ?_;intro W r4 s4
       have r5:Row W gr (List.replicate 64 0):=(r2.later b3).step s4 (fun e=>by have:=s2.size;omega))
    | (refine Z02 64 64 arrB (by rfl) _ _ (by rfl) gr (by rfl) Blk.zero.l (by rfl) hZ _ r5 (by simp) ?_;intro W6 r6 s6))
   have k2:=s2.size
   have B4:Below w2.heap.size w2 W:=((Stp.of_below b3 (fun _=>False)).next s4 (fun x e=> .inr (by omega))).below (Nat.le_refl _) (fun x e=>e.elim)
   exact bodyPost_ret (Z0j arrB Tryz.results51 rfl rfl r6 hZ) rfl ⟨rfl,Z26.own hlt b1 a1 z1 ⟨K2,ra2,s2,g2⟩ B4 s6⟩
def CZ.ldE (C:CZ) (i k:Int):Int:=if C.nwE i=0 then(if gES k (C.nwB i)=0 then 0 else 21)else C.nwE i
def CZ.ldB (C:CZ) (i k:Int):Ld:=if C.nwE i=0 then(if gES k (C.nwB i)=0 then gP k (C.nwB i)else Ld.zero)else Ld.zero
theorem Z26.stp {yc y q:Nat} {C':CZ} {u':World} (h:Z26 yc y q C' K u u'):Stp K u u':=by obtain⟨_,_,h,_⟩:=h;exact h
set_option maxHeartbeats 4000000 in
theorem Zhc (h:Ry u gY yc gp gX gE q C x s K) (ok:C.ok t) (ht:t≤9000) (i kd:Int) (hi:wfi i):
 Calls Tryz.prog 11 #[.pointer (some ⟨gY,0,none⟩), .int .i64 i, .int .i64 kd] u fun e w'=>e= .returned (.tuple #[.agg (C.ldB i kd).cs.toArray, .int .i64 (C.ldE i kd)])∧Z26 yc gE q (C.hold i) K u w':=by
 have hN:∀ w',Below u.heap.size u w'→Calls Tryz.prog 51 #[.pointer (some ⟨gY,0,none⟩), .int .i64 i] w' fun e w2=>e= .returned (.tuple #[.agg (C.nwB i).cs.toArray, .int .i64 (C.nwE i)])∧Z26 yc gE q (C.hold i) K w' w2:=fun w' b=>Zbl (h.step (Stp.of_below b (fun _=>False)) (fun _ _=>id)) ok ht i hi
 have hlt:=h.ra.lt
 unfold CZ.ldE CZ.ldB
 generalize C.nwB i=B0 at *
 generalize C.nwE i=e1 at *
 have t1:Hid True:=trivial
 have hFin:∀ {w1 w2 w3 w4 w9:World} {gr gb:Nat},Below u.heap.size u w1→Z26 yc gE q (C.hold i) K w1 w2→Below w2.heap.size w2 w3→w2.heap.size≤gb→Stp (fun y=>y=gb) w3 w4→u.heap.size≤gr→gr < w1.heap.size→Stp (fun y=>y=gr) w4 w9→Z26 yc gE q (C.hold i) K u w9:=fun b1 k2 b3 hb s4 a1 z1 s9=>Z26.own hlt b1 a1 z1 k2 (((Stp.of_below b3 (fun _=>False)).next s4 (fun x e=> .inr (by omega))).below (Nat.le_refl _) (fun x e=>e.elim)) s9
 have hB:=B0.len
 by_cases he:e1=0
 · subst he
   rw [if_pos rfl,if_pos rfl]
   have hGB:=fun w'=>Zbh kd B0 w'
   by_cases hg:gES kd B0=0
   · rw [if_pos hg,if_pos hg]
     rw [hg]at hGB
     have hL:=(gP kd B0).len
     generalize gP kd B0=L0 at *
     generalize gT kd B0=T0 at *
     clear hg
     go_enter Tryz.func11,Tryz.ntmps11
     go_wp2_with (first
      | (clear t1;refine Z03 41 54 arrL (by rfl) (by rfl) ?_;intro gr w1 a1 z1 r1 b1)
      | (go_at_call 51;refine(hN _ b1).mono ?_;rintro e w2 ⟨rfl,k2⟩;clear hN
         have s2:=k2.stp
         have r2:=r1.step s2 (fun e=>by have:=hlt _ e;omega))
      | (refine Z03 64 64 arrB (by rfl) (by rfl) ?_;intro gb w3 a3 z3 r3 b3)
      | (refine Z02 64 64 arrB (by rfl) _ _ (by rfl) gb (by rfl) B0.l (by rfl) hB _ r3 (by simp) ?_;intro w4 r4 s4)
      | (refine Z04 64 64 arrB (by rfl) _ (by rfl) gb (by rfl) _ r4 hB ?_)
      | (go_at_call 52;refine(hGB _).mono ?_;rintro e w5 ⟨rfl,b5⟩;clear hGB)
      | (refine Z03 41 54 arrL (by rfl) (by rfl) ?_;intro gl w6 a6 z6 r6 b6)
      | (refine Z02 41 54 arrL (by rfl) _ _ (by rfl) gl (by rfl) L0.l (by rfl) hL _ r6 (by simp) ?_;intro w7 r7 s7
         have r8:Row w7 gr _:=((((r2.later b3).step s4 (fun e=>by have:=s2.size;omega)).later b5).later b6).step s7 (fun e=>by have:=s2.size;have:=b3.size;have:=s4.size;have:=b5.size;omega))
      | (refine Z04 41 54 arrL (by rfl) _ (by rfl) gl (by rfl) _ r7 hL ?_)
      | (refine Z02 41 54 arrL (by rfl) _ _ (by rfl) gr (by rfl) L0.l (by rfl) hL _ r8 (by simp) ?_;intro w9 r9 s9))
     have k3:=b3.size
     have k4:=s4.size
     have k5:=b5.size
     have k6:=b6.size
     have B6:Below w2.heap.size w2 w6:=((Stp.of_below b3 (fun _=>False)).next s4 (fun x e=> .inr (by omega))).trans (Stp.of_below (Z01 b5 b6 (Nat.le_refl _)) _) |>.below (Nat.le_refl _) (fun _ h=>h.elim)
     exact bodyPost_ret (Z0j arrL Tryz.results11 rfl rfl r9 hL) rfl ⟨rfl,hFin b1 k2 B6 (by omega) s7 a1 z1 s9⟩
   · rw [if_neg hg,if_neg hg]
     have hL:=(gP kd B0).len
     have hZ:=Ld.zero.len
     obtain⟨e2,he2⟩:∃ e,Hid (gES kd B0=e):=⟨_,rfl⟩
     rw [he2.out]at hGB hg
     have hd0:¬e2=0:=hg
     generalize gP kd B0=L0 at *
     generalize gT kd B0=T0 at *
     clear he2 hg
     go_enter Tryz.func11,Tryz.ntmps11
     go_wp2_with (first
      | (clear t1;refine Z03 41 54 arrL (by rfl) (by rfl) ?_;intro gr w1 a1 z1 r1 b1)
      | (go_at_call 51;refine(hN _ b1).mono ?_;rintro e w2 ⟨rfl,k2⟩;clear hN
         have s2:=k2.stp
         have r2:=r1.step s2 (fun e=>by have:=hlt _ e;omega))
      | (refine Z03 64 64 arrB (by rfl) (by rfl) ?_;intro gb w3 a3 z3 r3 b3)
      | (refine Z02 64 64 arrB (by rfl) _ _ (by rfl) gb (by rfl) B0.l (by rfl) hB _ r3 (by simp) ?_;intro w4 r4 s4)
      | (refine Z04 64 64 arrB (by rfl) _ (by rfl) gb (by rfl) _ r4 hB ?_)
      | (go_at_call 52;refine(hGB _).mono ?_;rintro e w5 ⟨rfl,b5⟩;clear hGB)
      | (refine Z03 41 54 arrL (by rfl) (by rfl) ?_;intro gl w6 a6 z6 r6 b6)
      | (refine Z02 41 54 arrL (by rfl) _ _ (by rfl) gl (by rfl) L0.l (by rfl) hL _ r6 (by simp) ?_;intro w7 r7 s7
         have r8:Row w7 gr _:=((((r2.later b3).step s4 (fun e=>by have:=s2.size;omega)).later b5).later b6).step s7 (fun e=>by have:=s2.size;have:=b3.size;have:=s4.size;have:=b5.size;omega))
      | (refine Z0x (by rfl) (by rfl) ?_)
      | (refine Z02 41 54 arrL (by rfl) _ _ (by rfl) gr (by rfl) Ld.zero.l (by rfl) hZ _ r8 (by simp) ?_;intro w9 r9 s9))
     have k3:=b3.size
     have k4:=s4.size
     have k5:=b5.size
     have k6:=b6.size
     have B6:Below w2.heap.size w2 w6:=((Stp.of_below b3 (fun _=>False)).next s4 (fun x e=> .inr (by omega))).trans (Stp.of_below (Z01 b5 b6 (Nat.le_refl _)) _) |>.below (Nat.le_refl _) (fun _ h=>h.elim)
     exact bodyPost_ret (Z0j arrL Tryz.results11 rfl rfl r9 hZ) rfl ⟨rfl,hFin b1 k2 B6 (by omega) s7 a1 z1 s9⟩
 · rw [if_neg he,if_neg he]
   have hd0:¬e1=0:=he
   have hZ:=Ld.zero.len
   clear he
   go_enter Tryz.func11,Tryz.ntmps11
   go_wp2_with (first
    | (clear t1;refine Z03 41 54 arrL (by rfl) (by rfl) ?_;intro gr w1 a1 z1 r1 b1)
    | (go_at_call 51;refine(hN _ b1).mono ?_;rintro e w2 ⟨rfl,k2⟩;clear hN
       have s2:=k2.stp
       have r2:=r1.step s2 (fun e=>by have:=hlt _ e;omega))
    | (refine Z03 64 64 arrB (by rfl) (by rfl) ?_;intro gb w3 a3 z3 r3 b3)
    | (refine Z02 64 64 arrB (by rfl) _ _ (by rfl) gb (by rfl) B0.l (by rfl) hB _ r3 (by simp) ?_;intro w4 r4 s4
       have r8:Row w4 gr _:=(r2.later b3).step s4 (fun e=>by have:=s2.size;omega))
    | (refine Z0x (by rfl) (by rfl) ?_)
    | (refine Z02 41 54 arrL (by rfl) _ _ (by rfl) gr (by rfl) Ld.zero.l (by rfl) hZ _ r8 (by simp) ?_;intro w9 r9 s9))
   exact bodyPost_ret (Z0j arrL Tryz.results11 rfl rfl r9 hZ) rfl ⟨rfl,hFin b1 k2 b3 a3 s4 a1 z1 s9⟩
end
end Go.Proofs.YtogdffonjhghcaaGreatDoor
