/-
  Texts of my own, joined: no statement is proved here.
-/
import Derived.Test.YtogdffonjhghcaaGreatDoorJbt
set_option linter.unusedSimpArgs false
set_option linter.unusedVariables false
namespace Go.Proofs.YtogdffonjhghcaaGreatDoor
open Go.ChangeShapes Go.WideShapes Go.ChangeAt Go.RowKit
section
variable {u : World} {A : VA} {V : VZ} {U E F T X : Nat → Prop} {t k : Nat}
theorem ready_L {w:World} {g:Nat} {Z:GZ} {E F:Nat→Prop} (H:Gh w g Z E F) (s:Int) (hs:wfi s) (hnl:∀ p ∈ Z.l,p.needs.length≤6):
    Calls Tryz.prog 215 #[.pointer (some ⟨g,0,none⟩), .int .i64 s] w fun e w'=>∃ t:Sv,e= .returned (.slice t.a t.n t.c)∧InsS w' t (rdy Z.l s)∧InE (fun x=>w.heap.size≤x∧x < w'.heap.size) t∧Below w.heap.size w w':=by
  have hok:=H.ok
  have hwr:=rdy_wfi hok (by omega) s
  obtain⟨_,_,_,_,H⟩:=H
  refine(ready_any H s hs (fun p hp=>by have:=hnl p hp;omega)).mono ?_
  rintro e w' ⟨v,rfl,o4,n4,b4⟩
  obtain⟨⟨sa,sn,sc⟩,e4,e5,i4,e6⟩:=o4.ins hwr n4
  have e4':v= .slice sa sn sc:=e4
  subst e4'
  exact⟨⟨sa,sn,sc⟩,rfl,i4,e6,b4⟩
set_option maxRecDepth 100000 in
set_option maxHeartbeats 4000000 in
theorem vbring_any (H:Vx u A V U E F) (ok:VOk t k V) (ht:t≤8980) (i:Int) (hi:wfi i) (f:Bool) (hT:∀ x,T x↔Vt A U E F x):
    Calls Tryz.prog 149 #[.pointer (some ⟨A.v,0,none⟩), .int .i64 i, .bool f] u fun e w'=>e= .returned (.int .i64 (V.brgE i f))∧VG A (V.brg i f) T u w':=by
  have hG:=get_ca H.ca ok.c (by omega) i hi
  have hp:=(ok.p.hold i).ex
  have hlt:=H.lt
  have n6:=ok.n6
  have hok1:VOk (t+1) k (V.look i):=ok.look i
  have hrl:=rdy_len H.gh.ok i
  have t1:Hid True:=trivial
  by_cases he:V.c.holdE i=0
  · have hE1:Hid (V.brgE i f=(if stoE (V.c.hold i) i (V.nxt i) f=0 then V.g.wrE (rdy V.g.l i)else stoE (V.c.hold i) i (V.nxt i) f)):=by show _=_;unfold VZ.brgE;rw [if_pos he]
    have hE2:Hid (V.brg i f=(if stoE (V.c.hold i) i (V.nxt i) f=0 then { V with c:=sto (V.c.hold i) i (V.nxt i) f,g:=V.g.wr (rdy V.g.l i)} else { V with c:=sto (V.c.hold i) i (V.nxt i) f})):=by show _=_;unfold VZ.brg;rw [if_pos he]
    rw [he]at hG
    have hgl:=(V.c.got i).len
    have hRl:=(V.nxt i).len
    have hSome:∀ w (s n:Sv),PsL w s (wtP V.g.l i)→InsS w n (rdy V.g.l i)→Calls Tryz.prog 221 #[.agg (V.c.got i).cs.toArray, .slice s.a s.n s.c, .slice n.a n.n n.c] w fun e w'=>∃ e1,e= .returned (.tuple #[.agg (V.nxt i).cs.toArray, .int .i64 e1])∧Below w.heap.size w w':=fun w s n h h2=>(some_L h h2 (V.c.got i)).mono (fun e w' ⟨h1,h2⟩=>⟨_,h1,h2⟩)
    obtain⟨rE,hrE⟩:∃ r,Hid (V.brgE i f=r):=⟨_,rfl⟩
    rw [hrE.out]
    generalize V.c.got i=B0 at *
    generalize hR0:V.nxt i=R at *
    have hR':Hid (V.nxt i=R):=hR0
    clear hR0
    go_enter Tryz.func149,Tryz.ntmps149
    obtain⟨y0, -, -, -, -, -, -, -⟩:=H.cells
    go_wp2_with (first
      | (go_at_call 76;refine hG.mono ?_;rintro e w2 ⟨rfl,k2⟩;clear hG
         obtain⟨U2,H2,s2,g2⟩:=H.ofC k2 hp
         clear y0 k2)
      | (refine at_new 64 64 arrB (by rfl) (by rfl) ?_;intro gb w3 a3 z3 r3 b3)
      | (refine at_put 64 64 arrB (by rfl) _ _ (by rfl) gb (by rfl) B0.l (by rfl) hgl _ r3 (by simp) ?_;intro W r4 s4
         have H3:Vx W A (V.look i) U2 E F:=(H2.later b3).step s4 (fun x hx e=>by subst e;have:=H2.lt _ hx;omega)
         have y1:=H3.cells.2.1
         have hRd:=ready_L H3.gh i hi n6)
      | (go_at_call 215;refine hRd.mono ?_;rintro e w4 ⟨⟨na,nn,nc⟩,rfl,i4,e4,b4⟩;clear hRd y1))
    have hw2:=s2.size
    have S3:Stp T u w4:=((((Stp.refl T u).next s2 (fun x hx=> .inl ((hT x).2 (.inl hx)))).trans (Stp.of_below b3 T)).next s4 (fun x hx=> .inr (by subst hx;omega))).trans (Stp.of_below b4 T)
    have gU2:∀ x,U2 x→U x∨u.heap.size≤x:=fun x hx=>by rcases g2 x hx with e | e;exact .inl e;exact .inr e.1
    have r5:=r4.later b4
    have H4:=H3.later b4
    have l2:=H3.lt
    have hw4:=S3.size
    clear r3 r4 s4 b3 s2 g2 H2 H3 b4
    refine wp_region_held_drew (S:=fun x=>Below w4.heap.size w4 x) (by kernel_rfl) (Below.refl _ _).drew (fun hHeld=>?_)
    refine tk (i:=0) (oi:=⟨some 33, .load 64 (.tmp 7),64,_,#[],none⟩) (v:= .agg B0.cs.toArray) rfl
      (yields_row 64 64 arrB (by rfl) (.tmp 7) rfl gb (by rfl) B0.l hgl (fun u hu=>r5.later hu)) hHeld ?_
    try simp only [zp,zn,zq,zr,zs]
    refine tk (i:=1) (oi:=⟨some 34, .move (.tmp 0),27,_,#[],none⟩) (v:= .pointer (some ⟨A.v,0,none⟩)) rfl (Or.inl ⟨by rfl,?_⟩) hHeld ?_
    · intro u hu
      go_simp
    try simp only [zp,zn,zq,zr,zs]
    refine tk (i:=2) (oi:=⟨some 35, .nilCheck (.tmp 34),0,_,#[⟨1, .data⟩],none⟩) (v:= .pointer (some ⟨A.v,0,none⟩)) rfl (Or.inl ⟨by rfl,?_⟩) hHeld ?_
    · intro u hu
      go_simp
    try simp only [zp,zn,zq,zr,zs]
    refine tk (i:=3) (oi:=⟨some 36, .fieldAddr 117 (.tmp 35) 1,0,_,#[⟨2, .data⟩],none⟩) (v:= .pointer (some ⟨A.v,1,none⟩)) rfl (Or.inl ⟨by rfl,?_⟩) hHeld ?_
    · intro u hu
      go_simp
    try simp only [zp,zn,zq,zr,zs]
    refine tk (i:=4) (oi:=⟨some 37, .fieldAddr 114 (.tmp 36) 0,0,_,#[⟨3, .data⟩],none⟩) (v:= .pointer (some ⟨A.v,1,none⟩)) rfl (Or.inl ⟨by rfl,?_⟩) hHeld ?_
    · intro u hu
      go_simp
    try simp only [zp,zn,zq,zr,zs]
    refine tk (i:=5) (oi:=⟨some 38, .load 92 (.tmp 37),92,_,#[⟨4, .data⟩],none⟩) (v:= .pointer (some ⟨A.g,0,none⟩)) rfl (Or.inl ⟨by rfl,?_⟩) hHeld ?_
    · intro u hu
      have x1:=(H4.later hu).cells.2.1;go_simp
    try simp only [zp,zn,zq,zr,zs]
    refine tk (i:=6) (oi:=⟨some 39, .move (.tmp 1),3,_,#[],none⟩) (v:= .int .i64 i) rfl (Or.inl ⟨by rfl,?_⟩) hHeld ?_
    · intro u hu
      go_simp
    try simp only [zp,zn,zq,zr,zs]
    refine tk (i:=8) (oi:=⟨some 41, .move (.tmp 9),54,_,#[],none⟩) (v:= .slice na nn nc) rfl (Or.inl ⟨by rfl,?_⟩) hHeld ?_
    · intro u hu
      go_simp
    try simp only [zp,zn,zq,zr,zs]
    refine wpAnyH_ready (rs:= [7,13]) (by kernel_rfl) (by simp) ?_
    refine(AllReadyH.cons (o:=⟨some 40, .call { callee:=Callee.value (.func 78),args:=#[.tmp 38, .tmp 39],argTypes:=#[92,3]},120,_,#[⟨5, .data⟩,⟨6, .data⟩],none⟩) rfl (fun K hK=>?_) (AllReadyH.cons (o:=⟨some 10, .alloc 64,0,_,#[],none⟩) rfl (fun K hK=>?_) AllReadyH.nil))
    · skip
      go_simp
      refine(of_L (H4.later hHeld).gh i hi n6).mono ?_
      rintro e v3 ⟨⟨pa,pn,pc⟩,rfl,P3,c3⟩
      try (have y7:=y7.later c3)
      try go_wp2_with fail
      refine hK.out _ _ (bnext hHeld c3 (Nat.le_refl _)) (fun hHeld=>?_)
      clear hK K
      try simp only [zp,zn,zq,zr,zs]
      refine wpAnyH_ready (rs:= [9,13]) (by kernel_rfl) (by simp) ?_
      refine(AllReadyH.cons (o:=⟨some 42, .call { callee:=Callee.value (.func 221),args:=#[.tmp 33, .tmp 40, .tmp 41],argTypes:=#[64,120,54]},65,_,#[⟨0, .data⟩,⟨7, .data⟩,⟨8, .data⟩,⟨7, .chain⟩],none⟩) rfl (fun K hK=>?_) (AllReadyH.cons (o:=⟨some 10, .alloc 64,0,_,#[],none⟩) rfl (fun K hK=>?_) AllReadyH.nil))
      · skip
        go_simp
        refine(hSome _ _ _ P3 (i4.later hHeld)).mono ?_
        rintro e v4 ⟨e1,rfl,c4⟩
        try (have y7:=y7.later c4)
        try go_wp2_with fail
        refine hK.out _ _ (bnext hHeld c4 (Nat.le_refl _)) (fun hHeld=>?_)
        clear hK K
        try simp only [zp,zn,zq,zr,zs]
        refine tk (i:=10) (oi:=⟨some 32, .move (.tmp 42),65,_,#[⟨9, .data⟩],none⟩) (v:= .tuple #[.agg R.cs.toArray, .int .i64 e1]) rfl (Or.inl ⟨by rfl,?_⟩) hHeld ?_
        · intro u hu
          go_simp
        try simp only [zp,zn,zq,zr,zs]
        refine tk (i:=11) (oi:=⟨some 43, .extract (.tmp 32) 0,64,_,#[⟨10, .data⟩],none⟩) (v:= .agg R.cs.toArray) rfl (Or.inl ⟨by rfl,?_⟩) hHeld ?_
        · intro u hu
          go_simp
        try simp only [zp,zn,zq,zr,zs]
        refine tk (i:=12) (oi:=⟨some 44, .extract (.tmp 32) 1,28,_,#[⟨10, .data⟩,⟨14, .gcOnly .lateStores⟩],none⟩) (v:= .int .i64 e1) rfl (Or.inl ⟨by rfl,?_⟩) hHeld ?_
        · intro u hu
          go_simp
        try simp only [zp,zn,zq,zr,zs]
        refine wpAnyH_ready (rs:= [13]) (by kernel_rfl) (by simp) ?_
        refine(AllReadyH.cons (o:=⟨some 10, .alloc 64,0,_,#[],none⟩) rfl (fun K hK=>?_) AllReadyH.nil)
        refine step_new 64 64 arrB rfl rfl ?_
        intro g7 v7 a7 z7 y7 b7
        try (have P3:=P3.later b7)
        have m7:w4.heap.size≤g7:=Nat.le_trans hHeld.size a7
        refine hK.out _ _ (bnext hHeld b7 (Nat.le_refl _)) (fun hHeld=>?_)
        clear hK K
        try simp only [zp,zn,zq,zr,zs]
        refine wpAnyH_ready (rs:= [14]) (by kernel_rfl) (by simp) ?_
        refine(AllReadyH.cons (o:=⟨none, .store 64 (.tmp 10) (.tmp 43),0,_,#[⟨13, .data⟩,⟨11, .data⟩,⟨9, .chain⟩,⟨0, .phase⟩,⟨1, .phase⟩,⟨2, .phase⟩,⟨3, .phase⟩,⟨4, .phase⟩,⟨5, .phase⟩,⟨6, .phase⟩,⟨7, .phase⟩,⟨8, .phase⟩,⟨9, .phase⟩,⟨10, .phase⟩,⟨11, .phase⟩,⟨12, .textOnly .lateStores⟩,⟨13, .phase⟩],none⟩) rfl (fun K hK=>?_) AllReadyH.nil)
        refine step_put 64 64 arrB rfl (.tmp 10) (.tmp 43) rfl g7 (by rfl) R.l (by rfl) hRl _ y7 (by simp) ?_
        intro v8 y8 s8
        refine hK.out _ _ (((Stp.of_below hHeld (fun x=>w4.heap.size≤x)).next s8 (fun x hx=> .inl (by subst hx;exact m7))).below (Nat.le_refl _) (fun _ h=>h)) (fun hHeld=>?_)
        clear hK K
        try simp only [Act.put]
        refine tk (i:=15) (oi:=⟨some 11, .assign (.tmp 44),28,_,#[⟨12, .data⟩,⟨14, .chain⟩,⟨0, .phase⟩,⟨1, .phase⟩,⟨2, .phase⟩,⟨3, .phase⟩,⟨4, .phase⟩,⟨5, .phase⟩,⟨6, .phase⟩,⟨7, .phase⟩,⟨8, .phase⟩,⟨9, .phase⟩,⟨10, .phase⟩,⟨11, .phase⟩,⟨12, .phase⟩,⟨13, .phase⟩,⟨14, .phase⟩],none⟩) (v:= .int .i64 e1) rfl (Or.inl ⟨by rfl,?_⟩) hHeld ?_
        · intro u hu
          go_simp
        try simp only [zp,zn,zq,zr,zs]
        refine wpAnyH_done (by kernel_rfl) ?_ _
        have H5:=H4.later hHeld
        have hSt:=vstore_any H5 hok1 (by omega) i hi R f
        have S5:=S3.trans (Stp.of_below hHeld T)
        have i5:=i4.later hHeld
        have e5:=e4.mono (fun x (hx:W.heap.size≤x∧x < w4.heap.size)=>hx.1)
        obtain⟨e0,he0⟩:∃ e0,Hid (stoE (V.look i).c i R f=e0):=⟨_,rfl⟩
        have hr1:Hid (rE=(if e0=0 then V.g.wrE (rdy V.g.l i)else e0)):=by show _=_;rw [← hrE.out,hE1.out,← he0.out];rfl
        have hr2:Hid (V.brg i f=(if e0=0 then { V with c:=sto (V.c.hold i) i R f,g:=V.g.wr (rdy V.g.l i)} else { V with c:=sto (V.c.hold i) i R f})):=by show _=_;rw [hE2.out,← he0.out];rfl
        rw [he0.out]at hSt
        clear hE1 hE2 hrE he0 hHeld i4 e4 S3 H4 r5
        have hU2:∀ x,U2 x→x < W.heap.size:=fun x hx=>l2 x (.inl hx)
        by_cases h0:e0=0
        · subst h0
          have hr1':Hid (rE=V.g.wrE (rdy V.g.l i)):=by show _=_;rw [hr1.out];rfl
          go_wp2_with (first
            | (refine at_get 64 64 arrB (by rfl) _ (by rfl) g7 (by rfl) _ y8 hRl ?_)
            | (go_at_call 222;refine hSt.mono ?_;rintro e w6 ⟨rfl,U6,H6,s6,g6⟩;clear hSt
               have S6:Stp T u w6:=S5.next s6 (fun x hx=>by rcases gU2 x hx with e | e;exact .inl ((hT x).2 (.inl e));exact .inr e)
               have g6':∀ x,U6 x→U x∨u.heap.size≤x:=fun x hx=>by rcases g6 x hx with e | e;exact gU2 x e;exact .inr (by have:=S5.size;omega)
               have i6:=i5.step s6 e5 (fun x hx hu=>by have:=hU2 x hu;omega)
               have hg6:Gh w6 A.g V.g E F:=H6.gh
               have i6':InsS w6 ⟨na,nn,nc⟩ (rdy V.g.l i):=i6
               have hWr:=write_any hg6 i6' e5 (fun x hx hf=>by have:=l2 x (.inr (.inr (.inl hf)));omega) (by omega) (fun p hp=>by have:=n6 p hp;omega)
               rw [← hr1'.out]at hWr
               have y6:=H6.cells.2.1)
            | (go_at_call 223;refine hWr.mono ?_;rintro e w7 ⟨rfl,q7,s7⟩;clear hWr))
          go_returns
          refine⟨rfl,?_⟩
          have H7:=H6.ofG q7 s7 (Grew.refl _ _ _) (Grew.refl _ _ _)
          rw [hr2.out]
          exact VG.is H7 (S6.next s7 (fun x hx=> .inl ((hT x).2 (.inr (.inr (.inl hx)))))) (Vt.more hT g6' (fun x hx=> .inl hx) (fun x hx=> .inl hx))
        · have hd0:¬e0=0:=h0
          have hr1':Hid (rE=e0):=by show _=_;rw [hr1.out,if_neg h0]
          have hr2':Hid (V.brg i f= { V with c:=sto (V.c.hold i) i R f}):=by show _=_;rw [hr2.out,if_neg h0]
          clear hr1 hr2
          go_wp2_with (first
            | (refine at_get 64 64 arrB (by rfl) _ (by rfl) g7 (by rfl) _ y8 hRl ?_)
            | (go_at_call 222;refine hSt.mono ?_;rintro e w6 ⟨rfl,U6,H6,s6,g6⟩;clear hSt
               have S6:Stp T u w6:=S5.next s6 (fun x hx=>by rcases gU2 x hx with e | e;exact .inl ((hT x).2 (.inl e));exact .inr e)
               have g6':∀ x,U6 x→U x∨u.heap.size≤x:=fun x hx=>by rcases g6 x hx with e | e;exact gU2 x e;exact .inr (by have:=S5.size;omega)))
          go_returns
          refine⟨by rw [hr1'.out];rfl,?_⟩
          rw [hr2'.out]
          exact VG.is H6 S6 (Vt.more hT g6' (fun x hx=> .inl hx) (fun x hx=> .inl hx))
      · skip
        refine step_new 64 64 arrB rfl rfl ?_
        intro g7 v7 a7 z7 y7 b7
        try (have P3:=P3.later b7)
        have m7:w4.heap.size≤g7:=Nat.le_trans hHeld.size a7
        refine hK.out _ _ (bnext hHeld b7 (Nat.le_refl _)) (fun hHeld=>?_)
        clear hK K
        try simp only [zp,zn,zq,zr,zs]
        refine wpAnyH_ready (rs:= [9]) (by kernel_rfl) (by simp) ?_
        refine(AllReadyH.cons (o:=⟨some 42, .call { callee:=Callee.value (.func 221),args:=#[.tmp 33, .tmp 40, .tmp 41],argTypes:=#[64,120,54]},65,_,#[⟨0, .data⟩,⟨7, .data⟩,⟨8, .data⟩,⟨7, .chain⟩],none⟩) rfl (fun K hK=>?_) AllReadyH.nil)
        go_simp
        refine(hSome _ _ _ P3 (i4.later hHeld)).mono ?_
        rintro e v4 ⟨e1,rfl,c4⟩
        try (have y7:=y7.later c4)
        try go_wp2_with fail
        refine hK.out _ _ (bnext hHeld c4 (Nat.le_refl _)) (fun hHeld=>?_)
        clear hK K
        try simp only [zp,zn,zq,zr,zs]
        refine tk (i:=10) (oi:=⟨some 32, .move (.tmp 42),65,_,#[⟨9, .data⟩],none⟩) (v:= .tuple #[.agg R.cs.toArray, .int .i64 e1]) rfl (Or.inl ⟨by rfl,?_⟩) hHeld ?_
        · intro u hu
          go_simp
        try simp only [zp,zn,zq,zr,zs]
        refine tk (i:=11) (oi:=⟨some 43, .extract (.tmp 32) 0,64,_,#[⟨10, .data⟩],none⟩) (v:= .agg R.cs.toArray) rfl (Or.inl ⟨by rfl,?_⟩) hHeld ?_
        · intro u hu
          go_simp
        try simp only [zp,zn,zq,zr,zs]
        refine tk (i:=12) (oi:=⟨some 44, .extract (.tmp 32) 1,28,_,#[⟨10, .data⟩,⟨14, .gcOnly .lateStores⟩],none⟩) (v:= .int .i64 e1) rfl (Or.inl ⟨by rfl,?_⟩) hHeld ?_
        · intro u hu
          go_simp
        try simp only [zp,zn,zq,zr,zs]
        refine wpAnyH_ready (rs:= [14]) (by kernel_rfl) (by simp) ?_
        refine(AllReadyH.cons (o:=⟨none, .store 64 (.tmp 10) (.tmp 43),0,_,#[⟨13, .data⟩,⟨11, .data⟩,⟨9, .chain⟩,⟨0, .phase⟩,⟨1, .phase⟩,⟨2, .phase⟩,⟨3, .phase⟩,⟨4, .phase⟩,⟨5, .phase⟩,⟨6, .phase⟩,⟨7, .phase⟩,⟨8, .phase⟩,⟨9, .phase⟩,⟨10, .phase⟩,⟨11, .phase⟩,⟨12, .textOnly .lateStores⟩,⟨13, .phase⟩],none⟩) rfl (fun K hK=>?_) AllReadyH.nil)
        refine step_put 64 64 arrB rfl (.tmp 10) (.tmp 43) rfl g7 (by rfl) R.l (by rfl) hRl _ y7 (by simp) ?_
        intro v8 y8 s8
        refine hK.out _ _ (((Stp.of_below hHeld (fun x=>w4.heap.size≤x)).next s8 (fun x hx=> .inl (by subst hx;exact m7))).below (Nat.le_refl _) (fun _ h=>h)) (fun hHeld=>?_)
        clear hK K
        try simp only [Act.put]
        refine tk (i:=15) (oi:=⟨some 11, .assign (.tmp 44),28,_,#[⟨12, .data⟩,⟨14, .chain⟩,⟨0, .phase⟩,⟨1, .phase⟩,⟨2, .phase⟩,⟨3, .phase⟩,⟨4, .phase⟩,⟨5, .phase⟩,⟨6, .phase⟩,⟨7, .phase⟩,⟨8, .phase⟩,⟨9, .phase⟩,⟨10, .phase⟩,⟨11, .phase⟩,⟨12, .phase⟩,⟨13, .phase⟩,⟨14, .phase⟩],none⟩) (v:= .int .i64 e1) rfl (Or.inl ⟨by rfl,?_⟩) hHeld ?_
        · intro u hu
          go_simp
        try simp only [zp,zn,zq,zr,zs]
        refine wpAnyH_done (by kernel_rfl) ?_ _
        have H5:=H4.later hHeld
        have hSt:=vstore_any H5 hok1 (by omega) i hi R f
        have S5:=S3.trans (Stp.of_below hHeld T)
        have i5:=i4.later hHeld
        have e5:=e4.mono (fun x (hx:W.heap.size≤x∧x < w4.heap.size)=>hx.1)
        obtain⟨e0,he0⟩:∃ e0,Hid (stoE (V.look i).c i R f=e0):=⟨_,rfl⟩
        have hr1:Hid (rE=(if e0=0 then V.g.wrE (rdy V.g.l i)else e0)):=by show _=_;rw [← hrE.out,hE1.out,← he0.out];rfl
        have hr2:Hid (V.brg i f=(if e0=0 then { V with c:=sto (V.c.hold i) i R f,g:=V.g.wr (rdy V.g.l i)} else { V with c:=sto (V.c.hold i) i R f})):=by show _=_;rw [hE2.out,← he0.out];rfl
        rw [he0.out]at hSt
        clear hE1 hE2 hrE he0 hHeld i4 e4 S3 H4 r5
        have hU2:∀ x,U2 x→x < W.heap.size:=fun x hx=>l2 x (.inl hx)
        by_cases h0:e0=0
        · subst h0
          have hr1':Hid (rE=V.g.wrE (rdy V.g.l i)):=by show _=_;rw [hr1.out];rfl
          go_wp2_with (first
            | (refine at_get 64 64 arrB (by rfl) _ (by rfl) g7 (by rfl) _ y8 hRl ?_)
            | (go_at_call 222;refine hSt.mono ?_;rintro e w6 ⟨rfl,U6,H6,s6,g6⟩;clear hSt
               have S6:Stp T u w6:=S5.next s6 (fun x hx=>by rcases gU2 x hx with e | e;exact .inl ((hT x).2 (.inl e));exact .inr e)
               have g6':∀ x,U6 x→U x∨u.heap.size≤x:=fun x hx=>by rcases g6 x hx with e | e;exact gU2 x e;exact .inr (by have:=S5.size;omega)
               have i6:=i5.step s6 e5 (fun x hx hu=>by have:=hU2 x hu;omega)
               have hg6:Gh w6 A.g V.g E F:=H6.gh
               have i6':InsS w6 ⟨na,nn,nc⟩ (rdy V.g.l i):=i6
               have hWr:=write_any hg6 i6' e5 (fun x hx hf=>by have:=l2 x (.inr (.inr (.inl hf)));omega) (by omega) (fun p hp=>by have:=n6 p hp;omega)
               rw [← hr1'.out]at hWr
               have y6:=H6.cells.2.1)
            | (go_at_call 223;refine hWr.mono ?_;rintro e w7 ⟨rfl,q7,s7⟩;clear hWr))
          go_returns
          refine⟨rfl,?_⟩
          have H7:=H6.ofG q7 s7 (Grew.refl _ _ _) (Grew.refl _ _ _)
          rw [hr2.out]
          exact VG.is H7 (S6.next s7 (fun x hx=> .inl ((hT x).2 (.inr (.inr (.inl hx)))))) (Vt.more hT g6' (fun x hx=> .inl hx) (fun x hx=> .inl hx))
        · have hd0:¬e0=0:=h0
          have hr1':Hid (rE=e0):=by show _=_;rw [hr1.out,if_neg h0]
          have hr2':Hid (V.brg i f= { V with c:=sto (V.c.hold i) i R f}):=by show _=_;rw [hr2.out,if_neg h0]
          clear hr1 hr2
          go_wp2_with (first
            | (refine at_get 64 64 arrB (by rfl) _ (by rfl) g7 (by rfl) _ y8 hRl ?_)
            | (go_at_call 222;refine hSt.mono ?_;rintro e w6 ⟨rfl,U6,H6,s6,g6⟩;clear hSt
               have S6:Stp T u w6:=S5.next s6 (fun x hx=>by rcases gU2 x hx with e | e;exact .inl ((hT x).2 (.inl e));exact .inr e)
               have g6':∀ x,U6 x→U x∨u.heap.size≤x:=fun x hx=>by rcases g6 x hx with e | e;exact gU2 x e;exact .inr (by have:=S5.size;omega)))
          go_returns
          refine⟨by rw [hr1'.out];rfl,?_⟩
          rw [hr2'.out]
          exact VG.is H6 S6 (Vt.more hT g6' (fun x hx=> .inl hx) (fun x hx=> .inl hx))
    · skip
      refine step_new 64 64 arrB rfl rfl ?_
      intro g7 v7 a7 z7 y7 b7
      try (have P3:=P3.later b7)
      have m7:w4.heap.size≤g7:=Nat.le_trans hHeld.size a7
      refine hK.out _ _ (bnext hHeld b7 (Nat.le_refl _)) (fun hHeld=>?_)
      clear hK K
      try simp only [zp,zn,zq,zr,zs]
      refine wpAnyH_ready (rs:= [7]) (by kernel_rfl) (by simp) ?_
      refine(AllReadyH.cons (o:=⟨some 40, .call { callee:=Callee.value (.func 78),args:=#[.tmp 38, .tmp 39],argTypes:=#[92,3]},120,_,#[⟨5, .data⟩,⟨6, .data⟩],none⟩) rfl (fun K hK=>?_) AllReadyH.nil)
      go_simp
      refine(of_L (H4.later hHeld).gh i hi n6).mono ?_
      rintro e v3 ⟨⟨pa,pn,pc⟩,rfl,P3,c3⟩
      try (have y7:=y7.later c3)
      try go_wp2_with fail
      refine hK.out _ _ (bnext hHeld c3 (Nat.le_refl _)) (fun hHeld=>?_)
      clear hK K
      try simp only [zp,zn,zq,zr,zs]
      refine wpAnyH_ready (rs:= [9]) (by kernel_rfl) (by simp) ?_
      refine(AllReadyH.cons (o:=⟨some 42, .call { callee:=Callee.value (.func 221),args:=#[.tmp 33, .tmp 40, .tmp 41],argTypes:=#[64,120,54]},65,_,#[⟨0, .data⟩,⟨7, .data⟩,⟨8, .data⟩,⟨7, .chain⟩],none⟩) rfl (fun K hK=>?_) AllReadyH.nil)
      go_simp
      refine(hSome _ _ _ P3 (i4.later hHeld)).mono ?_
      rintro e v4 ⟨e1,rfl,c4⟩
      try (have y7:=y7.later c4)
      try go_wp2_with fail
      refine hK.out _ _ (bnext hHeld c4 (Nat.le_refl _)) (fun hHeld=>?_)
      clear hK K
      try simp only [zp,zn,zq,zr,zs]
      refine tk (i:=10) (oi:=⟨some 32, .move (.tmp 42),65,_,#[⟨9, .data⟩],none⟩) (v:= .tuple #[.agg R.cs.toArray, .int .i64 e1]) rfl (Or.inl ⟨by rfl,?_⟩) hHeld ?_
      · intro u hu
        go_simp
      try simp only [zp,zn,zq,zr,zs]
      refine tk (i:=11) (oi:=⟨some 43, .extract (.tmp 32) 0,64,_,#[⟨10, .data⟩],none⟩) (v:= .agg R.cs.toArray) rfl (Or.inl ⟨by rfl,?_⟩) hHeld ?_
      · intro u hu
        go_simp
      try simp only [zp,zn,zq,zr,zs]
      refine tk (i:=12) (oi:=⟨some 44, .extract (.tmp 32) 1,28,_,#[⟨10, .data⟩,⟨14, .gcOnly .lateStores⟩],none⟩) (v:= .int .i64 e1) rfl (Or.inl ⟨by rfl,?_⟩) hHeld ?_
      · intro u hu
        go_simp
      try simp only [zp,zn,zq,zr,zs]
      refine wpAnyH_ready (rs:= [14]) (by kernel_rfl) (by simp) ?_
      refine(AllReadyH.cons (o:=⟨none, .store 64 (.tmp 10) (.tmp 43),0,_,#[⟨13, .data⟩,⟨11, .data⟩,⟨9, .chain⟩,⟨0, .phase⟩,⟨1, .phase⟩,⟨2, .phase⟩,⟨3, .phase⟩,⟨4, .phase⟩,⟨5, .phase⟩,⟨6, .phase⟩,⟨7, .phase⟩,⟨8, .phase⟩,⟨9, .phase⟩,⟨10, .phase⟩,⟨11, .phase⟩,⟨12, .textOnly .lateStores⟩,⟨13, .phase⟩],none⟩) rfl (fun K hK=>?_) AllReadyH.nil)
      refine step_put 64 64 arrB rfl (.tmp 10) (.tmp 43) rfl g7 (by rfl) R.l (by rfl) hRl _ y7 (by simp) ?_
      intro v8 y8 s8
      refine hK.out _ _ (((Stp.of_below hHeld (fun x=>w4.heap.size≤x)).next s8 (fun x hx=> .inl (by subst hx;exact m7))).below (Nat.le_refl _) (fun _ h=>h)) (fun hHeld=>?_)
      clear hK K
      try simp only [Act.put]
      refine tk (i:=15) (oi:=⟨some 11, .assign (.tmp 44),28,_,#[⟨12, .data⟩,⟨14, .chain⟩,⟨0, .phase⟩,⟨1, .phase⟩,⟨2, .phase⟩,⟨3, .phase⟩,⟨4, .phase⟩,⟨5, .phase⟩,⟨6, .phase⟩,⟨7, .phase⟩,⟨8, .phase⟩,⟨9, .phase⟩,⟨10, .phase⟩,⟨11, .phase⟩,⟨12, .phase⟩,⟨13, .phase⟩,⟨14, .phase⟩],none⟩) (v:= .int .i64 e1) rfl (Or.inl ⟨by rfl,?_⟩) hHeld ?_
      · intro u hu
        go_simp
      try simp only [zp,zn,zq,zr,zs]
      refine wpAnyH_done (by kernel_rfl) ?_ _
      have H5:=H4.later hHeld
      have hSt:=vstore_any H5 hok1 (by omega) i hi R f
      have S5:=S3.trans (Stp.of_below hHeld T)
      have i5:=i4.later hHeld
      have e5:=e4.mono (fun x (hx:W.heap.size≤x∧x < w4.heap.size)=>hx.1)
      obtain⟨e0,he0⟩:∃ e0,Hid (stoE (V.look i).c i R f=e0):=⟨_,rfl⟩
      have hr1:Hid (rE=(if e0=0 then V.g.wrE (rdy V.g.l i)else e0)):=by show _=_;rw [← hrE.out,hE1.out,← he0.out];rfl
      have hr2:Hid (V.brg i f=(if e0=0 then { V with c:=sto (V.c.hold i) i R f,g:=V.g.wr (rdy V.g.l i)} else { V with c:=sto (V.c.hold i) i R f})):=by show _=_;rw [hE2.out,← he0.out];rfl
      rw [he0.out]at hSt
      clear hE1 hE2 hrE he0 hHeld i4 e4 S3 H4 r5
      have hU2:∀ x,U2 x→x < W.heap.size:=fun x hx=>l2 x (.inl hx)
      by_cases h0:e0=0
      · subst h0
        have hr1':Hid (rE=V.g.wrE (rdy V.g.l i)):=by show _=_;rw [hr1.out];rfl
        go_wp2_with (first
          | (refine at_get 64 64 arrB (by rfl) _ (by rfl) g7 (by rfl) _ y8 hRl ?_)
          | (go_at_call 222;refine hSt.mono ?_;rintro e w6 ⟨rfl,U6,H6,s6,g6⟩;clear hSt
             have S6:Stp T u w6:=S5.next s6 (fun x hx=>by rcases gU2 x hx with e | e;exact .inl ((hT x).2 (.inl e));exact .inr e)
             have g6':∀ x,U6 x→U x∨u.heap.size≤x:=fun x hx=>by rcases g6 x hx with e | e;exact gU2 x e;exact .inr (by have:=S5.size;omega)
             have i6:=i5.step s6 e5 (fun x hx hu=>by have:=hU2 x hu;omega)
             have hg6:Gh w6 A.g V.g E F:=H6.gh
             have i6':InsS w6 ⟨na,nn,nc⟩ (rdy V.g.l i):=i6
             have hWr:=write_any hg6 i6' e5 (fun x hx hf=>by have:=l2 x (.inr (.inr (.inl hf)));omega) (by omega) (fun p hp=>by have:=n6 p hp;omega)
             rw [← hr1'.out]at hWr
             have y6:=H6.cells.2.1)
          | (go_at_call 223;refine hWr.mono ?_;rintro e w7 ⟨rfl,q7,s7⟩;clear hWr))
        go_returns
        refine⟨rfl,?_⟩
        have H7:=H6.ofG q7 s7 (Grew.refl _ _ _) (Grew.refl _ _ _)
        rw [hr2.out]
        exact VG.is H7 (S6.next s7 (fun x hx=> .inl ((hT x).2 (.inr (.inr (.inl hx)))))) (Vt.more hT g6' (fun x hx=> .inl hx) (fun x hx=> .inl hx))
      · have hd0:¬e0=0:=h0
        have hr1':Hid (rE=e0):=by show _=_;rw [hr1.out,if_neg h0]
        have hr2':Hid (V.brg i f= { V with c:=sto (V.c.hold i) i R f}):=by show _=_;rw [hr2.out,if_neg h0]
        clear hr1 hr2
        go_wp2_with (first
          | (refine at_get 64 64 arrB (by rfl) _ (by rfl) g7 (by rfl) _ y8 hRl ?_)
          | (go_at_call 222;refine hSt.mono ?_;rintro e w6 ⟨rfl,U6,H6,s6,g6⟩;clear hSt
             have S6:Stp T u w6:=S5.next s6 (fun x hx=>by rcases gU2 x hx with e | e;exact .inl ((hT x).2 (.inl e));exact .inr e)
             have g6':∀ x,U6 x→U x∨u.heap.size≤x:=fun x hx=>by rcases g6 x hx with e | e;exact gU2 x e;exact .inr (by have:=S5.size;omega)))
        go_returns
        refine⟨by rw [hr1'.out];rfl,?_⟩
        rw [hr2'.out]
        exact VG.is H6 S6 (Vt.more hT g6' (fun x hx=> .inl hx) (fun x hx=> .inl hx))
  · have hE1:Hid (V.brgE i f=V.c.holdE i):=by show _=_;unfold VZ.brgE;rw [if_neg he]
    have hE2:Hid (V.brg i f=V.look i):=by show _=_;unfold VZ.brg VZ.look;rw [if_neg he]
    rw [hE1.out,hE2.out]
    have hgl:=(V.c.got i).len
    generalize V.c.got i=B0 at *
    generalize hE0:V.c.holdE i=e0 at *
    clear hE0 hE1
    go_enter Tryz.func149,Tryz.ntmps149
    obtain⟨y0, -, -, -, -, -, -, -⟩:=H.cells
    go_wp2_with (first
      | (go_at_call 76;refine hG.mono ?_;rintro e w2 ⟨rfl,k2⟩;clear hG
         obtain⟨U2,H2,s2,g2⟩:=H.ofC k2 hp
         clear y0 k2)
      | (refine at_new 64 64 arrB (by rfl) (by rfl) ?_;intro gb w3 a3 z3 r3 b3)
      | (refine at_put 64 64 arrB (by rfl) _ _ (by rfl) gb (by rfl) B0.l (by rfl) hgl _ r3 (by simp) ?_;intro W r4 s4))
    go_returns
    have hw2:=s2.size
    have H3:Vx W A (V.look i) U2 E F:=(H2.later b3).step s4 (fun x hx e=>by subst e;have:=H2.lt _ hx;omega)
    have S3:Stp T u W:=(((Stp.refl T u).next s2 (fun x hx=> .inl ((hT x).2 (.inl hx)))).trans (Stp.of_below b3 T)).next s4 (fun x hx=> .inr (by subst hx;omega))
    have gU2:∀ x,U2 x→U x∨u.heap.size≤x:=fun x hx=>by rcases g2 x hx with e | e;exact .inl e;exact .inr e.1
    exact⟨rfl,VG.is H3 S3 (Vt.more hT gU2 (fun x hx=> .inl hx) (fun x hx=> .inl hx))⟩
end
theorem brs_snoc {V:VZ} {f:Bool} :∀ {L:List Int} (y:Int),(V.brs f L).1=0→V.brs f (L++ [y])=((V.brs f L).2.brgE y f,(V.brs f L).2.brg y f):=by
  intro L
  induction L generalizing V with
  | nil=>
    intro y _
    show V.brs f [y]=(V.brgE y f,V.brg y f)
    unfold VZ.brs
    by_cases h:V.brgE y f=0
    · rw [if_pos h,h];rfl
    · rw [if_neg h]
  | cons i r ih=>
    intro y h
    have e:(i::r)++ [y]=i::(r++ [y]):=rfl
    rw [e]
    unfold VZ.brs at h ⊢
    by_cases hi:V.brgE i f=0
    · rw [if_pos hi]at h ⊢
      rw [if_pos hi]
      exact ih y h
    · rw [if_neg hi]at h
      exact absurd h hi
theorem brs_stop {V:VZ} {f:Bool} :∀ {L:List Int} (B:List Int),(V.brs f L).1≠0→V.brs f (L++B)=V.brs f L:=by
  intro L
  induction L generalizing V with
  | nil=>intro B h;exact absurd rfl h
  | cons i r ih=>
    intro B h
    have e:(i::r)++B=i::(r++B):=rfl
    rw [e]
    unfold VZ.brs at h ⊢
    by_cases hi:V.brgE i f=0
    · rw [if_pos hi]at h ⊢
      rw [if_pos hi]
      exact ih B h
    · rw [if_neg hi,if_neg hi]
section
variable {ops : Array Oper} {rest : List Oper} {o : Oper} {a : Act} {w : World} {Q : Exit → Act → World → Prop}
theorem at_boxPt (T:Nat) (hw:Region.wanted o (yielded ops a.tmps)=true) (x:Operand) (ho:o.op= .box T x) (p:Option Addr) (hx:a.eval x= .pointer p)
    (h:∀ g w',w.heap.size≤g→g < w'.heap.size→Cs w' g [.pointer p]→Below w.heap.size w w'→wpList Tryz.prog ops Q rest (a.put o.dst (.pointer (some ⟨g,0,none⟩))) w'):wpList Tryz.prog ops Q (o::rest) a w:=by
  refine op_val hw _ _ ?_ (h w.heap.size (w.alloc (.cells #[.pointer p] T)) (Nat.le_refl _) (by simp) (Cs.made _ [.pointer p] _ (by intro v hv;simp at hv;subst hv;rfl)) ((Below.refl _ _).alloc (Nat.le_refl _) _))
  have :(Instr.box T (.pointer p)).run Tryz.prog w= .ok (.pointer (some ⟨w.heap.size,0,none⟩)) (w.alloc (.cells #[.pointer p] T)):=by
    simp [Instr.box,newVar,Value.cells,go_sem]
  simp only [execOp,ho,hx,Sem.run_bind,this];rfl
end
section
variable {u : World} {A : VA} {V : VZ} {U E F T B : Nat → Prop} {t k : Nat}
theorem Vx.own (H:Vx u A V U E F) {u':World} (k:Stp (fun x=>x=A.v) u u') (hc:Cs u' A.v (A.cs V.s)):Vx u' A V U E F:=
  ⟨hc,H.ca.step k (fun x hx e=>H.uv.1 (e▸hx)),H.ps,H.ww.stp k (fun e=>H.uv.2.2.2.1 e.symm),H.gh.stp k (fun x hx e=>H.uv.2.2.1 (e▸hx)) (fun x hx e=>H.uv.2.1 (e▸hx)),H.tb.stp k (fun e=>H.uv.2.2.2.2 e.symm),by rw [k.block 0 H.tb.lt (fun e=>H.uv.2.2.2.2 e.symm)];exact H.z0,H.so,H.f0,H.uv,H.uw,H.ue,H.uz⟩
set_option maxRecDepth 100000 in
set_option maxHeartbeats 2000000 in
theorem vfinish_nil (H:Vx u A V U E F) (fv:Value):
    Calls Tryz.prog 80 #[.pointer (some ⟨A.v,0,none⟩),fv] u fun e w'=>e= .returned (.int .i64 0)∧Vx w' A V U E F∧Stp (fun x=>x=A.v) u w':=by
  have y7:=H.cells.2.2.2.2.2.2.2
  have f7:=H.c.frozen 7
  go_enter Tryz.func80,Tryz.ntmps80
  go_wp2
  refine wp_loop_rounds 1 ?_
  rw [rounds_succ]
  go_wp2
  go_returns
  have k:Stp (fun x=>x=A.v) u (u.setCell ⟨A.v,7,none⟩ (.slice none 0 0)):=(Stp.refl (fun x=>x=A.v) u).setCell (p:=⟨A.v,7,none⟩) (.inl rfl) _
  exact⟨rfl,H.own k (H.c.set 7 (.slice none 0 0) rfl),k⟩
theorem settleAll_L {w:World} {g:Nat} {Z:GZ} {E F:Nat→Prop} (H:Gh w g Z E F):
    Calls Tryz.prog 151 #[.pointer (some ⟨g,0,none⟩)] w fun e w'=>e= .returned (.int .i64 (Z.stlN fun _=>true))∧Gh w' g (Z.stl fun _=>true) E F∧Stp F w w':=by
  obtain⟨_,_,_,_,hg⟩:=H
  exact settleAll_any hg
structure CyI (w3 wr:World) (A:VA) (V:VZ) (T:Nat→Prop) (L:List Int) (f:Bool) (j g2 g3:Nat) (cs3:List Value):Prop where
  ze:(V.brs f (L.take j)).1=0
  vg:VG A (V.brs f (L.take j)).2 T w3 wr
  c2:Cs wr g2 [.pointer (some ⟨A.v,0,none⟩)]
  c3:Cs wr g3 cs3
set_option maxRecDepth 100000 in
set_option maxHeartbeats 4000000 in
theorem vcarry_any (H:Vx u A V U E F) (ok:VOk t k V) {s:Sv} {L:List Int} (hs:InsS u s L) (he:InE B s) (hB:∀ x,B x→¬T x) (hL:t+3 * L.length≤8970) (f:Bool) (hT:∀ x,T x↔Vt A U E F x):
    Calls Tryz.prog 97 #[.pointer (some ⟨A.v,0,none⟩), .agg (btc (.slice s.a s.n s.c) f).toArray] u fun e w'=>e= .returned (.int .i64 (V.cary L f).1)∧VG A (V.cary L f).2 T u w':=by
  have hl:=hs.i.len
  have hrise:Rise V.g.l:=H.gh.ok.srt
  have hlt:∀ x,T x→x < u.heap.size:=fun x hx=>H.lt x ((hT x).1 hx)
  have hVo:Vo u A V T:=⟨U,E,F,H,hT⟩
  obtain⟨na,nn,nc⟩:=s
  have hokJ:∀ j,j≤L.length→VOk (t+3 * j) k (V.brs f (L.take j)).2∧Rise (V.brs f (L.take j)).2.g.l:=fun j hj=>by
    have:=VOk.brs f (L.take j) V t ok hrise
    rw [List.length_take,Nat.min_eq_left hj]at this;exact this
  obtain⟨rE,hrE⟩:∃ r,Hid ((V.cary L f).1=r):=⟨_,rfl⟩
  rw [hrE.out]
  go_enter Tryz.func97,Tryz.ntmps97
  go_wp2_with (first
    | (refine at_boxPt _ (by rfl) _ (by rfl) _ (by rfl) ?_;intro g2 w2 a2 z2 r2 b2)
    | (refine at_boxC 170 (by rfl) _ (by rfl) (btc (.slice na nn nc) f) (by rfl) (btc_one rfl f) ?_;intro g3 w3 a3 z3 r3 b3;have c0:=r3.cell 0 _ rfl))
  have B3:=bnext b2 b3 (Nat.le_refl _)
  have hs2:=b2.size
  have hs3:=b3.size
  have hVo3:=hVo.later B3
  have start:CyI w3 w3 A V T L f 0 g2 g3 (btc (.slice na nn nc) f):=⟨rfl,VG.refl hVo3,r2.step (Stp.of_below b3 (fun _=>False)) id,r3⟩
  have hs':=hs.later B3
  have nT2:∀ T':Nat→Prop,(∀ x,T' x→T x∨w3.heap.size≤x)→¬T' g2∧¬T' g3:=fun T' h=>⟨fun e=>by rcases h _ e with e | e;have:=hlt _ e;omega;omega,fun e=>by rcases h _ e with e | e;have:=hlt _ e;omega;omega⟩
  clear c0 r3 r2
  go_loopw [12] (fun x wr=>∃ j:Nat,j≤L.length∧x= .int .i64 (j:Int)∧CyI w3 wr A V T L f j g2 g3 (btc (.slice na nn nc) f)) (fun x _=>L.length - (intOf x).toNat)
  case atStart=>exact⟨0,Nat.zero_le _,rfl,start⟩
  case round=>
    clear start
    obtain⟨j,hj,rfl,I⟩:=hrel
    obtain⟨T',⟨U1,E1,F1,H1,hT1⟩,s1,g1⟩:=I.vg
    have c2:=I.c2.cell 0 _ rfl
    have c31:=I.c3.cell 1 _ rfl
    obtain⟨hokj,hrj⟩:=hokJ j hj
    have ze:=I.ze
    have I2:=I.c2
    have I3:=I.c3
    have hT':∀ x,T' x→T x∨w3.heap.size≤x:=fun x hx=>by rcases g1 x hx with e | e;exact .inl e;exact .inr e.1
    by_cases hlt':j < L.length
    · have h2:=hs'.step s1 he hB
      obtain⟨bb,o,e,hcs⟩:=h2.i.cell (by simp only at hl ⊢;omega)
      have ck:=hcs j (by simp only at hl ⊢;omega)
      simp only at e
      subst e
      have hTk:L.take (j+1)=L.take j++ [L.getD j 0]:=by
        rw [List.take_add_one,List.getElem?_eq_getElem hlt',List.getD_eq_getElem?_getD,List.getElem?_eq_getElem hlt'];rfl
      have hwx:wfi (L.getD j 0):=by
        rw [List.getD_eq_getElem?_getD,List.getElem?_eq_getElem hlt'];exact hs.i.wf _ (List.getElem_mem _)
      have e1:Hid (V.brs f (L.take (j+1))=((V.brs f (L.take j)).2.brgE (L.getD j 0) f,(V.brs f (L.take j)).2.brg (L.getD j 0) f)):=by show _=_;rw [hTk,brs_snoc _ ze]
      have e2:Hid (V.brgE=V.brgE∧((V.brs f (L.take (j+1))).1≠0→V.brs f L=V.brs f (L.take (j+1)))):=⟨rfl,fun h=>by
        have:=brs_stop (L.drop (j+1)) h
        rwa [List.take_append_drop]at this⟩
      generalize L.getD j 0=y at *
      generalize hV1:(V.brs f (L.take j)).2=V1 at *
      have hBr:=vbring_any H1 hokj (by omega) y hwx f hT1
      have a3:(j:Int) < (nn:Int):=by omega
      obtain⟨e0,he0⟩:∃ e0,Hid (V1.brgE y f=e0):=⟨_,rfl⟩
      rw [he0.out]at hBr
      clear hcs h2 hTk hV1 I
      obtain⟨n2,n3⟩:=nT2 T' hT'
      by_cases h0:e0=0
      · subst h0
        go_wp2_with (first
          | (go_at_call 149;refine hBr.mono ?_;rintro e w5 ⟨rfl,k5⟩;clear hBr
             have d2:=I2.step k5.stp n2
             have d3:=I3.step k5.stp n3))
        have K5:VG A (V1.brg y f) T w3 w5:=VG.seq s1 g1 k5
        have J:CyI w3 w5 A V T L f (j+1) g2 g3 (btc (.slice (some ⟨bb,o,none⟩) nn nc) f):=⟨by rw [e1.out];exact he0.out,by rw [e1.out];exact K5,d2,d3⟩
        go_roundw
        case rel=>exact⟨j+1,by omega,by go_num,J⟩
        case measure=>simp [intOf];omega
      · have hd0:¬e0=0:=h0
        have hc:Hid (V.cary L f=(e0,V1.brg y f)):=by
          show _=_
          have h1:(V.brs f (L.take (j+1))).1≠0:=by rw [e1.out];show V1.brgE y f≠0;rw [he0.out];exact h0
          have h2:=e2.out.2 h1
          have h3:V.brs f L=(e0,V1.brg y f):=by rw [h2,e1.out,he0.out]
          unfold VZ.cary
          rw [h3,if_neg h0]
        go_wp2_with (first
          | (go_at_call 149;refine hBr.mono ?_;rintro e w5 ⟨rfl,k5⟩;clear hBr
             have d2:=I2.step k5.stp n2
             have d3:=I3.step k5.stp n3))
        go_returns
        exact⟨by rw [← hrE.out,hc.out];rfl,by rw [hc.out];exact VG.from B3 (VG.seq s1 g1 k5)⟩
    · have hj':j=L.length:=by omega
      subst hj'
      rw [List.take_length]at ze hokj hrj H1
      have hc1:Hid (V.cary L f=((V.brs f L).2.endE f,(V.brs f L).2.endB f)):=by show _=_;unfold VZ.cary;rw [if_pos ze]
      generalize (V.brs f L).2=V1 at *
      have y1:=H1.cells.2.1
      have y2:=H1.cells.2.2.1
      obtain⟨n2,n3⟩:=nT2 T' hT'
      clear I
      have fin:∀ (w5 w6 w7:World) (V2:VZ) (T2 U2 E2 F2:Nat→Prop),Vx w5 A V2 U2 E2 F2→Stp T' wr w5→(∀ x,Vt A U2 E2 F2 x→T' x∨wr.heap.size≤x)→Gh w6 A.g (V2.g.stl fun _=>true) E2 F2→Stp F2 w5 w6→Vx w7 A V2.settled U2 E2 F2→Stp (fun x=>x=A.v) w6 w7→VG A V2.settled T w3 w7:=fun w5 w6 w7 V2 T2 U2 E2 F2 h5 s5 g5 q6 s6 h7 s7=>by
        have up:∀ x,Vt A U2 E2 F2 x→T' x∨wr.heap.size≤x:=g5
        refine VG.seq s1 g1 (VG.is h7 ((s5.next s6 (fun x hx=>up x (.inr (.inr (.inl hx))))).next s7 (fun x hx=>?_)) g5)
        subst hx
        exact .inl ((hT1 A.v).2 (by unfold Vt;simp))
      cases f
      · have hF:=flush_ca H1.ca (hokj.c.oOk (by omega))
        obtain⟨e0,he0⟩:∃ e0,Hid (oErr V1.c.p=e0):=⟨_,rfl⟩
        rw [he0.out]at hF
        have hpf:=hokj.p.flush.ex
        by_cases h0:e0=0
        · subst h0
          have hc2:Hid (rE=0∧(V.cary L false).2=({ V1 with c:=V1.c.flush} :VZ).settled):=⟨by rw [← hrE.out,hc1.out];show V1.endE false=0;unfold VZ.endE;simp;exact he0.out,by rw [hc1.out];show V1.endB false=_;unfold VZ.endB;simp;intro h;exact absurd he0.out h⟩
          have hFn:∀ w' fv U5,Vx w' A ({ V1 with c:=V1.c.flush} :VZ).settled U5 E1 F1→_:=fun w' fv U5 h=>vfinish_nil h fv
          go_wp2_with (first
            | (go_at_call 150;refine hF.mono ?_;rintro e w5 ⟨rfl,k5⟩;clear hF
               obtain⟨U5,H5,s5,g5⟩:=H1.ofC k5 hpf
               have d2:=(I2.step s5 (fun hx=>n2 ((hT1 _).2 (.inl hx)))).cell 0 _ rfl
               have y5:=H5.cells.2.1
               have S5:Stp T' wr w5:=s5.mono (fun x hx=> .inl ((hT1 x).2 (.inl hx)))
               have G5:∀ x,Vt A U5 E1 F1 x→T' x∨wr.heap.size≤x:=Vt.more hT1 (fun x hx=>by rcases g5 x hx with e | e;exact .inl e;exact .inr e.1) (fun x hx=> .inl hx) (fun x hx=> .inl hx)
               have hSt:=settleAll_L H5.gh
               clear k5 y1 y2 c2)
            | (go_at_call 151;refine hSt.mono ?_;rintro e w6 ⟨rfl,q6,s6⟩;clear hSt
               have H6:=H5.ofG q6 s6 (Grew.refl _ _ _) (Grew.refl _ _ _)
               have d6:w6.cell? ⟨g2,0,none⟩=some (.pointer (some ⟨A.v,0,none⟩)):=s6.cell d2 (fun hx=>n2 ((hT1 _).2 (.inr (.inr (.inl hx)))))
               clear d2)
            | (go_at_call 80;refine(hFn _ _ _ H6).mono ?_;rintro e w7 ⟨rfl,H7,s7⟩;clear hFn))
          go_returns
          obtain⟨p1,p2⟩:=hc2.out
          exact⟨by rw [p1];rfl,by rw [p2];exact VG.from B3 (fin w5 w6 w7 _ T' U5 E1 F1 H5 S5 G5 q6 s6 H7 s7)⟩
        · have hd0:¬e0=0:=h0
          have hc2:Hid (rE=e0∧(V.cary L false).2=({ V1 with c:=V1.c.flush} :VZ)):=⟨by rw [← hrE.out,hc1.out];show V1.endE false=e0;unfold VZ.endE;simp;exact he0.out,by rw [hc1.out];show V1.endB false=_;unfold VZ.endB;simp;intro h;exact absurd (he0.out.symm.trans h) h0⟩
          go_wp2_with (first
            | (go_at_call 150;refine hF.mono ?_;rintro e w5 ⟨rfl,k5⟩;clear hF
               obtain⟨U5,H5,s5,g5⟩:=H1.ofC k5 hpf
               have d2:=(I2.step s5 (fun hx=>n2 ((hT1 _).2 (.inl hx)))).cell 0 _ rfl
               have y5:=H5.cells.2.1
               have S5:Stp T' wr w5:=s5.mono (fun x hx=> .inl ((hT1 x).2 (.inl hx)))
               have G5:∀ x,Vt A U5 E1 F1 x→T' x∨wr.heap.size≤x:=Vt.more hT1 (fun x hx=>by rcases g5 x hx with e | e;exact .inl e;exact .inr e.1) (fun x hx=> .inl hx) (fun x hx=> .inl hx)
               have hSt:=settleAll_L H5.gh
               clear k5 y1 y2 c2))
          go_returns
          obtain⟨p1,p2⟩:=hc2.out
          exact⟨by rw [p1];rfl,by rw [p2];exact VG.from B3 (VG.seq s1 g1 (VG.is H5 S5 G5))⟩
      · have hSt:=settleAll_L H1.gh
        have hc2:Hid (rE=0∧(V.cary L true).2=V1.settled):=⟨by rw [← hrE.out,hc1.out];rfl,by rw [hc1.out];rfl⟩
        have hFn:∀ w' fv,Vx w' A V1.settled U1 E1 F1→_:=fun w' fv h=>vfinish_nil h fv
        go_wp2_with (first
          | (go_at_call 151;refine hSt.mono ?_;rintro e w6 ⟨rfl,q6,s6⟩;clear hSt
             have H6:=H1.ofG q6 s6 (Grew.refl _ _ _) (Grew.refl _ _ _)
             have d6:w6.cell? ⟨g2,0,none⟩=some (.pointer (some ⟨A.v,0,none⟩)):=s6.cell c2 (fun hx=>n2 ((hT1 _).2 (.inr (.inr (.inl hx)))))
             clear c2)
          | (go_at_call 80;refine(hFn _ _ H6).mono ?_;rintro e w7 ⟨rfl,H7,s7⟩;clear hFn))
        go_returns
        obtain⟨p1,p2⟩:=hc2.out
        exact⟨by rw [p1];rfl,by rw [p2];exact VG.from B3 (fin wr w6 w7 _ T' U1 E1 F1 H1 (Stp.refl _ _) (fun x hx=> .inl ((hT1 x).2 hx)) q6 s6 H7 s7)⟩
end
end Go.Proofs.YtogdffonjhghcaaGreatDoor
