/-
  Texts of my own, joined: no statement is proved here.
-/
import Derived.Test.YtogdffonjhghcaaGreatDoorJbz
import Derived.Test.YtogdffonjhghcaaGreatDoorJca
set_option linter.unusedSimpArgs false
set_option linter.unusedVariables false
namespace Go.Proofs.YtogdffonjhghcaaGreatDoor.volMakes
open Go.ChangeShapes Go.WideShapes Go.ChangeAt Go.RowKit
set_option maxRecDepth 100000
theorem Z9i (D:DS) (x:WS) (n:Nat) (h1:1≤n) (h2:n≤64) (hw:∀ i,(D.wt i).length=0):VOk 3 0 (VZ.new D PS.fresh.turn x n):=by
 refine⟨CZ.new_ok h1 h2 (fun i=>by rw [hw i];omega) (fun s h=>?_),rfl,Int.le_refl _,(fun p hp=>by cases hp)⟩
 injection h with h;subst h;exact Z7h Z8f
theorem Zon (N:Nat) (l:List Blk) (i:Int):(((DS.new N).load l).wt i).length=0:=by
 unfold DS.load
 split<;>rfl
theorem Zcx (N:Nat) (l:List Blk):((DS.new N).load l).n=N:=by unfold DS.load;split<;>rfl
theorem w0_b:(WS.turn ⟨0,0,0⟩ 0 PS.fresh).b < 256:=by decide+kernel
theorem w0_c:(WS.turn ⟨0,0,0⟩ 0 PS.fresh).c=sm (WS.turn ⟨0,0,0⟩ 0 PS.fresh).a (WS.turn ⟨0,0,0⟩ 0 PS.fresh).b:=by decide+kernel
set_option maxHeartbeats 8000000 in
theorem walk (a:Option Addr) (n c:Nat) (l:List Blk) (sz i kd:Int) (w:World) (h:BlsU w a n c l) (ws:(Lit.int .i64 sz).wf=true) (wi:(Lit.int .i64 i).wf=true) (wk:(Lit.int .i64 kd).wf=true) (T:∀ i,i < 3→w.cell? ⟨0,i,none⟩=some (.int .i64 ([1,0,2].getD i 0))):
 Calls Tryz.prog 3 #[.slice a n c, .int .i64 sz, .int .i64 i, .int .i64 kd] w fun e w'=>e= .returned (.bool true)∧Below w.heap.size w w':=by
 have ht:Tab w:=⟨T 0 (by decide),T 1 (by decide),T 2 (by decide)⟩
 clear T
 have hl:=h.len
 have hle:=h.le
 have hcap:=h.cap
 unfold maxLen at hcap
 obtain⟨i0,hi,hz0,hz1,hz2⟩:=info_parts Zj1
 obtain⟨m,hm,hm',hm2,hm3⟩:∃ m:Nat,min (n:Int) 40=(m:Int)∧m≤n∧m≤40∧(l.take m).length=m:=⟨min n 40,by omega,by omega,by omega,by rw [List.length_take];omega⟩
 have hm4:Hid ((l.take m).length=m):=hm3
 clear hm3
 have o0:(w.alloc (.cells #[] 64)).ownsRow w.heap.size 64 64 (.slice (some ⟨w.heap.size,0,none⟩) 0 0) 0 []:=World.ownsRow_made w #[] 0 (Nat.le_refl _) (Nat.zero_le _) rfl
 have B0:Below w.heap.size w (w.alloc (.cells #[] 64)):=(Below.refl _ w).alloc (Nat.le_refl _) _
 cases a with
 | none=>
   obtain rfl:=h.nil rfl
   obtain rfl:n=0:=by omega
   obtain rfl:m=0:=by omega
   go_enter Tryz.func3,Tryz.ntmps3
   go_wp2_with (first
    | (at_builtin;refine wpList_append_own_none rfl _ _ 22 rfl w.heap.size 64 i0 64 Zc8 hi _ 0 [] rfl o0 rfl ?_)
    | (go_at_call 7;refine(Z46 _ (ht.later B0)).mono ?_;rintro e w9 ⟨rfl,b9⟩))
   go_returns
   exact⟨rfl,Z01 B0 b9 (Nat.le_refl _)⟩
 | some x=>
   have hnw:=h.news m hm' (.cells #[] 64)
   have hfl:(Z0f (l.take m)).length=m * 64:=by rw [Z55,hm4.out]
   go_enter Tryz.func3,Tryz.ntmps3
   by_cases hm0:m=0
   · subst hm0
     go_wp2_with (first
      | (at_builtin;refine wpList_append_own_at _ rfl _ _ 22 rfl w.heap.size 64 i0 _ 64 64 Zc8 hi hz0 hz1 hz2 (by simp [Value.cells,Blk.cs_len]) (by decide) _ 0 [] rfl o0 x 0 c (Z0f (l.take 0)) rfl hfl hnw (Z71 _) (by unfold maxLen;omega) (by omega) (by simp) ?_
         intro v1 w1 h1 h2 h3 h4
         obtain⟨g1,c1,rfl,_⟩:=Z4v h1 (fun e=>by have:=(h3.1 e).1;cases this)
         have s1:Stp (fun x=>w.heap.size≤x) (w.alloc (.cells #[] 64)) w1:=Stp.of_grown h2 (fun x e=> .inl (by have e':some w.heap.size=some x:=e;injection e' with e';omega))
         have B1:Below w.heap.size w w1:=((Stp.of_below B0 (fun x=>w.heap.size≤x)).trans s1).below (Nat.le_refl _) (fun _ h=>h))
      | (go_at_call 7;refine(Z46 _ (ht.later B1)).mono ?_;rintro e w9 ⟨rfl,b9⟩))
     go_returns
     exact⟨rfl,Z01 B1 b9 (Nat.le_refl _)⟩
   · have hmz:¬(m:Int)=0:=by omega
     have hMd:∀ w1 g1 c1,Wd w1 g1 m c1 (l.take m)→Below w.heap.size w w1→_:=fun w1 g1 c1 hw b=>Zcy hw (ht.later b) sz (by omega) (by omega)
     have hdn:=Zcx m (l.take m)
     have hwt:=Zon m (l.take m)
     generalize (DS.new m).load (l.take m)=D at *
     go_wp2_with (first
      | (at_builtin;refine wpList_append_own_at _ rfl _ _ 22 rfl w.heap.size 64 i0 _ 64 64 Zc8 hi hz0 hz1 hz2 (by simp [Value.cells,Blk.cs_len]) (by decide) _ 0 [] rfl o0 x m c (Z0f (l.take m)) rfl hfl hnw (Z71 _) (by unfold maxLen;omega) (by omega) (by simp) ?_
         intro v1 w1 h1 h2 h3 h4
         obtain⟨g1,c1,rfl,_⟩:=Z4v h1 (fun e=>by have:=(h3.1 e).1;cases this)
         rw [Nat.zero_add,List.nil_append]at h1
         have s1:Stp (fun x=>w.heap.size≤x) (w.alloc (.cells #[] 64)) w1:=Stp.of_grown h2 (fun x e=> .inl (by have e':some w.heap.size=some x:=e;injection e' with e';omega))
         have B1:Below w.heap.size w w1:=((Stp.of_below B0 (fun x=>w.heap.size≤x)).trans s1).below (Nat.le_refl _) (fun _ h=>h)
         have r1:Wd w1 g1 m c1 (l.take m):=by
          have:=Wd.own (B:=w.heap.size) (w:=w1) (g:=g1) (c:=c1) (l:=l.take m) (by rw [hm4.out];exact h1)
          rw [hm4.out]at this;exact this
         clear h1 h2 h3 h4 s1)
      | (go_at_call 8;refine(hMd _ _ _ r1 B1).mono ?_;rintro e w2 ⟨g6,sP,gD,gW,q,gE,gX,pv,py,rfl,q3,b2,HM⟩;clear hMd
         have y2:=q3.cell 2 _ rfl))
     have hN1:=fun u=>Z4e (u:=u) (.pointer none) (.pointer (some ⟨gW,0,none⟩)) sz (.inl rfl)
     have t1:Hid True:=trivial
     rcases (show _∨_ from HM)with⟨hz,rfl,rfl,F,hdd⟩ | ⟨hz,A,U,E,F,gY,yc,gp,K,rfl,rfl,rfl,rfl,rfl,z3,WZ⟩
     · have hN2:=Ze2 hdd sz
       clear HM
       go_wp2_with (first
        | (clear t1;go_at_call 9;refine(hN1 _).mono ?_;rintro e w3 ⟨rfl,rfl⟩;clear hN1;have y1:=q3.cell 1 _ rfl)
        | (go_at_call 9;refine hN2.mono ?_;rintro e w4 ⟨rfl,b4⟩;clear hN2 y1 y2;have y7:=(q3.step (Stp.of_below b4 (fun _=>False)) id).cell 7 _ rfl
           have B4:=Z01 (Z01 B1 b2 (Nat.le_refl _)) b4 (Nat.le_refl _))
        | (go_at_call 7;refine(Z46 _ (ht.later B4)).mono ?_;rintro e w9 ⟨rfl,b9⟩))
       go_returns
       exact⟨rfl,Z01 B4 b9 (Nat.le_refl _)⟩
     · have hdd:∃ d p F G,DD w2 A.d (.pointer (some ⟨A.s,0,none⟩)) d p F G:=by
        obtain⟨mp,ov,f,E,F,G,H,_⟩:=WZ.vx.ca
        exact⟨_,_,F,G,H.dd⟩
       obtain⟨dd,dp,dF,dG,hdd⟩:=hdd
       have hN2:=Ze2 hdd sz
       have hsz:1≤sz.toNat∧sz.toNat≤64:=by
        by_cases e:sz < 1∨64 < sz
        · unfold mkE at hz;rw [if_pos e]at hz;cases hz
        · omega
       have ok:=Z9i D (WS.turn ⟨0,0,0⟩ 0 PS.fresh) sz.toNat hsz.1 hsz.2 hwt
       have I2:=WZ.wy z3 b2
       have hVn:(VZ.new D PS.fresh.turn (WS.turn ⟨0,0,0⟩ 0 PS.fresh) sz.toNat).c.d.n=m:=hdn
       have hVw:(VZ.new D PS.fresh.turn (WS.turn ⟨0,0,0⟩ 0 PS.fresh) sz.toNat).w=WS.turn ⟨0,0,0⟩ 0 PS.fresh:=rfl
       have hwb:=w0_b
       have hwc:=w0_c
       rw [← hVw]at hwb hwc
       generalize VZ.new D PS.fresh.turn (WS.turn ⟨0,0,0⟩ 0 PS.fresh) sz.toNat=V at *
       generalize Vt A U E F=T0 at *
       clear HM WZ hVw hz hdd
       have hLd:=fun u T (hI:Wy w1 u ⟨g6,gY,yc,gp,gX,gE,q,A⟩ V V.c T K)=>Zkk hI.vo ok (by omega) i kd wi
       have hRl:=fun u T (hI:Wy w1 u ⟨g6,gY,yc,gp,gX,gE,q,A⟩ (V.look i) V.c T K)=>Zhc hI.ry ok.c (by omega) i kd wi
       have hAl:=fun u T K (hI:Wy w1 u ⟨g6,gY,yc,gp,gX,gE,q,A⟩ (V.look i) (V.look i).c T K)=>Zhu hI (ok.look i) (by show(V.c.hold i).d.n≤2048;rw [Zff,hVn];omega) (by omega) hwb hwc
       obtain⟨e1,e2⟩:=ld0 I2.g0 i kd
       rw [e1,e2]at hLd
       generalize V.c.ldB i kd=L at *
       generalize V.c.ldE i kd=eL at *
       have hL:=L.len
       have qL:∀ w,(Op.equalIn 10000 41 (.agg L.cs.toArray) (.agg L.cs.toArray)).run Tryz.prog w= .ok true w:=fun w=>by rw [eqL];simp
       have qM:∀ w,(Op.equalIn 10000 41 (.agg (Z00 L.l).toArray) (.agg (Z00 L.l).toArray)).run Tryz.prog w= .ok true w:=qL
       clear qL
       have gL:=Zco
       clear e1 e2
       go_wp2_with (first
        | (clear t1;go_at_call 9;refine(hN1 _).mono ?_;rintro e w3 ⟨rfl,rfl⟩;clear hN1;have y1:=q3.cell 1 _ rfl)
        | (go_at_call 9;refine hN2.mono ?_;rintro e w4 ⟨rfl,b4⟩;clear hN2 y1 y2
           have I4:=I2.later b4
           have y7:=I4.cs.cell 7 _ rfl
           have y3:=I4.cs.cell 3 _ rfl)
        | (go_at_call 10;refine(hLd _ _ I4).mono ?_;rintro e w5 ⟨rfl,k5⟩;clear hLd y3 y7
           obtain⟨T5,I5,f5⟩:=I4.ofV k5 rfl rfl rfl
           have a5:Hid True:=trivial)
        | (clear a5;refine Z03 41 54 arrL (by rfl) (by rfl) ?_;intro gA w6 l6 z6 rA b6;have a6:Hid True:=trivial)
        | (clear a6;refine Z02 41 54 arrL (by rfl) _ _ (by rfl) gA (by rfl) L.l (by rfl) hL _ rA (by simp) ?_;intro w7 rA7 s7
           have I7:=I5.own b6 l6 s7
           have y7:=I7.cs.cell 7 _ rfl
           have hl7:=I5.lt)
        | (go_at_call 11;refine(hRl _ _ I7).mono ?_;rintro e w8 ⟨rfl,k8⟩;clear hRl y7
           have s8:=k8.stp
           obtain⟨K8,I8⟩:=I7.ofR k8
           have a8:Hid True:=trivial)
        | (clear a8;refine Z03 41 54 arrL (by rfl) (by rfl) ?_;intro gB w9 l9 z9 rB b9;have a9:Hid True:=trivial)
        | (clear a9;refine Z02 41 54 arrL (by rfl) _ _ (by rfl) gB (by rfl) L.l (by rfl) hL _ rB (by simp) ?_;intro w10 rB10 s10
           have I10:=I8.own b9 l9 s10
           have rA10:=((rA7.step s8 (fun e=>by have:=hl7.2.2 gA (.inl e);omega)).later b9).step s10 (fun e=>by have:=s8.size;have:=s7.size;omega)
           have hA10:=hAl _ _ _ I10
           have a10:Hid True:=trivial)
        | (clear a10;refine Z04 41 54 arrL (by rfl) _ (by rfl) gA (by rfl) _ rA10 hL ?_;have a11:Hid True:=trivial)
        | (clear a11;refine Z04 41 54 arrL (by rfl) _ (by rfl) gB (by rfl) _ rB10 hL ?_)
        | (go_at_call 12;refine hA10.mono ?_;rintro e w11 ⟨rfl,b11⟩;clear hA10;have B11:=B1.trans (b11.mono B1.size))
        | (go_at_call 7;refine(Z46 _ (ht.later B11)).mono ?_;rintro e w12 ⟨rfl,b12⟩))
       go_returns
       exact⟨rfl,Z01 B11 b12 (Nat.le_refl _)⟩
end Go.Proofs.YtogdffonjhghcaaGreatDoor.volMakes
