/-
  Texts of my own, joined: no statement is proved here.
-/
import Derived.Maps.AppendAt
import Derived.Test.YtogdffonjhghcaaGreatDoorRows
import Derived.OpenShut
import Derived.Test.YtogdffonjhghcaaGreatDoorJaz
set_option linter.unusedSimpArgs false
set_option linter.unusedVariables false
namespace Go.Proofs.YtogdffonjhghcaaGreatDoor
open Go.ChangeShapes Go.WideShapes Go.ChangeAt Go.RowKit
section
variable {w w' : World} {gc g mp : Nat} {sp ov : Value} {Z : CZ} {f f1 : Int → Option Value} {E F G E1 F1 : Nat → Prop}
theorem Cx.hd {w2:World} {ov1:Value} {i:Int} {q:Pg} {r:Nat} {rs:El} {u:Pg→Pg} (H:Cx w gc g sp Z mp ov1 f1 E1 F1 G) (hn:(keys Z.l).Nodup) (hl:Z.l=(i,q)::rs) (hr:f1 i=some (.pointer (some ⟨r,0,none⟩))) (k:Stp (fun x=>x=r) w w2) (hc:Cs w2 r (u q).cs):
    Cx w2 gc g sp (Z.onHd u) mp ov1 f1 E1 F1 G:=by
  have:=H.put (q':=u q) (fnd_head hl) hr k hc
  have e:Z.onHd u=Z.setP i (u q):=by unfold CZ.onHd CZ.setP;rw [hd_set hl hn]
  rw [e];exact this
end
set_option maxRecDepth 100000 in
set_option maxHeartbeats 2000000 in
theorem get_anyC {w:World} {gc g mp:Nat} {sp ov:Value} {Z:CZ} {f:Int→Option Value} {E F G:Nat→Prop} {t:Nat} (H:Cx w gc g sp Z mp ov f E F G) (ok:Z.ok t) (ht:t≤10000) (i:Int) (hwi:(Lit.int .i64 i).wf=true):
    Calls Tryz.prog 76 #[.pointer (some ⟨gc,0,none⟩), .int .i64 i] w fun e w'=>e= .returned (.tuple #[.agg (Z.got i).cs.toArray, .int .i64 (Z.holdE i)])∧To gc g mp sp E F G (Z.hold i) w w':=by
  have hH:=fun u (hu:Below w.heap.size w u)=>hold_any (H.later hu) ok ht i hwi
  by_cases he:Z.holdE i=0
  · obtain⟨q,rs,hl⟩:=hold_head he
    have e1:Z.got i=q.b:=by unfold CZ.got;rw [if_pos he,fnd_head hl]
    have hHE:Hid (Z.got i=q.b∧Z.holdE i=0):=⟨e1,he⟩
    rw [he]at hH;clear e1 he
    go_enter Tryz.func76,Tryz.ntmps76
    go_wp2_with (first
      | (refine at_newB (by rfl) (by rfl) ?_;intro gb w1 a1 l1 r1 b1)
      | (go_at_call 134;refine(hH _ b1).mono ?_;rintro e w2 ⟨ov2,f2,E2,F2,rfl,H2,s2,gE,gF⟩
         obtain⟨r,hr,hE2,hc⟩:=H2.page (fnd_head hl)
         rw [hp0,hr]
         have r2:Cs w2 gb Blk.zero.cs:=r1.step s2 (H.far gb a1)
         clear hH)
      | (refine at_getB (by rfl) _ (by rfl) r (by rfl) q.b (Pg.b_range hc) ?_)
      | (refine at_putB (by rfl) _ _ (by rfl) gb (by rfl) q.b (by rfl) _ r2 ?_;intro w3 r3 s3))
    have hgb:¬E2 gb∧¬F2 gb∧¬G gb:=by
      refine⟨fun e=>?_,fun e=>?_,fun e=>?_⟩
      · rcases gE gb e with e | e
        · exact H.far gb a1 (.inl e)
        · omega
      · rcases gF gb e with e | e
        · exact H.far gb a1 (.inr (.inl e))
        · omega
      · exact H.far gb a1 (.inr (.inr e))
    have H3:=H2.step s3 (fun x hx e=>hgb.1 (e▸hx)) (fun x hx e=>hgb.2.1 (e▸hx)) (fun x hx e=>hgb.2.2 (e▸hx))
    have S2:Stp (Al E F G) w w2:=(Stp.of_below b1 (Al E F G)).trans s2
    refine bodyPost_ret (retBt Tryz.results76 rfl rfl r3) rfl ⟨by obtain⟨q1,q2⟩:=hHE.out;rw [q1,q2];rfl,ov2,f2,E2,F2,H3,S2.next s3 (fun x e=> .inr (by rw [e];exact a1)),Grew.trans (b:=w2) (gE.pre b1.size) (Grew.refl _ _ _) S2.size s3.size,Grew.trans (b:=w2) (gF.pre b1.size) (Grew.refl _ _ _) S2.size s3.size⟩
  · have e1:Z.got i=Blk.zero:=by unfold CZ.got;rw [if_neg he]
    have hHE:Hid (Z.got i=Blk.zero):=e1
    clear e1
    go_enter Tryz.func76,Tryz.ntmps76
    go_wp2_with (first
      | (refine at_newB (by rfl) (by rfl) ?_;intro gb w1 a1 l1 r1 b1)
      | (go_at_call 134;refine(hH _ b1).mono ?_;rintro e w2 ⟨ov2,f2,E2,F2,rfl,H2,s2,gE,gF⟩
         have r2:Cs w2 gb Blk.zero.cs:=r1.step s2 (H.far gb a1)
         clear hH)
      | (refine at_build (by rfl) (by rfl) ?_)
      | (refine at_putB (by rfl) _ _ (by rfl) gb (by rfl) Blk.zero (by rfl) _ r2 ?_;intro w3 r3 s3))
    have hgb:¬E2 gb∧¬F2 gb∧¬G gb:=by
      refine⟨fun e=>?_,fun e=>?_,fun e=>?_⟩
      · rcases gE gb e with e | e
        · exact H.far gb a1 (.inl e)
        · omega
      · rcases gF gb e with e | e
        · exact H.far gb a1 (.inr (.inl e))
        · omega
      · exact H.far gb a1 (.inr (.inr e))
    have H3:=H2.step s3 (fun x hx e=>hgb.1 (e▸hx)) (fun x hx e=>hgb.2.1 (e▸hx)) (fun x hx e=>hgb.2.2 (e▸hx))
    have S2:Stp (Al E F G) w w2:=(Stp.of_below b1 (Al E F G)).trans s2
    refine bodyPost_ret (retBt Tryz.results76 rfl rfl r3) rfl ⟨by rw [hHE.out];rfl,ov2,f2,E2,F2,H3,S2.next s3 (fun x e=> .inr (by rw [e];exact a1)),Grew.trans (b:=w2) (gE.pre b1.size) (Grew.refl _ _ _) S2.size s3.size,Grew.trans (b:=w2) (gF.pre b1.size) (Grew.refl _ _ _) S2.size s3.size⟩
set_option maxRecDepth 100000 in
set_option maxHeartbeats 2000000 in
theorem put_any {w:World} {gc g mp:Nat} {sp ov:Value} {Z:CZ} {f:Int→Option Value} {E F G:Nat→Prop} {t:Nat} (H:Cx w gc g sp Z mp ov f E F G) (ok:Z.ok t) (ht:t≤10000) (i:Int) (hwi:(Lit.int .i64 i).wf=true) (b:Blk):
    Calls Tryz.prog 277 #[.pointer (some ⟨gc,0,none⟩), .int .i64 i, .agg b.cs.toArray] w fun e w'=>e= .returned (.int .i64 (Z.holdE i))∧To gc g mp sp E F G (Z.put i b) w w':=by
  have hH:=fun u (hu:Below w.heap.size w u)=>hold_any (H.later hu) ok ht i hwi
  by_cases he:Z.holdE i=0
  · obtain⟨q,rs,hl⟩:=hold_head he
    have e1:Z.put i b=(Z.hold i).onHd (fun q=>⟨b,true,q.pn⟩):=by unfold CZ.put;rw [if_pos he]
    have hHE:Hid (Z.put i b=(Z.hold i).onHd (fun q=>⟨b,true,q.pn⟩)∧Z.holdE i=0):=⟨e1,he⟩
    rw [he]at hH;clear e1 he
    have okh:=ok.hold i
    go_enter Tryz.func277,Tryz.ntmps277
    go_wp2_with (first
      | (refine at_boxB (by rfl) _ (by rfl) b (by rfl) ?_;intro gb w1 a1 l1 r1 b1)
      | (go_at_call 134;refine(hH _ b1).mono ?_;rintro e w2 ⟨ov2,f2,E2,F2,rfl,H2,s2,gE,gF⟩
         obtain⟨r,hr,hE2,hc⟩:=H2.page (fnd_head hl)
         rw [hp0,hr]
         have r2:Cs w2 gb b.cs:=r1.step s2 (H.far gb a1)
         clear hH)
      | (refine at_getB (by rfl) _ (by rfl) gb (by rfl) b r2.range ?_)
      | (refine at_putPC (by rfl) _ _ (by rfl) r (by rfl) b (by rfl) q hc ?_;intro w3 r3 s3
         have x3:=Pg.ch_cell r3
         have v3:=r3.frozen 64))
    go_returns
    have s4:Stp (fun x=>x=r) w3 (w3.setCell ⟨r,64,none⟩ (.bool true)):=(Stp.refl (fun x=>x=r) w3).setCell (p:=⟨r,64,none⟩) (.inl rfl) _
    have s5:=s3.trans s4
    have H3:=H2.hd (u:=fun q=>⟨b,true,q.pn⟩) okh.nd hl hr s5 (Pg.set_ch r3 true)
    have S2:Stp (Al E F G) w w2:=(Stp.of_below b1 (Al E F G)).trans s2
    refine⟨by obtain⟨q1,q2⟩:=hHE.out;rw [q2];rfl,ov2,f2,E2,F2,by rw [hHE.out.1];exact H3,S2.next s5 (fun x e=>?_),Grew.trans (b:=w2) (gE.pre b1.size) (Grew.refl _ _ _) S2.size s5.size,Grew.trans (b:=w2) (gF.pre b1.size) (Grew.refl _ _ _) S2.size s5.size⟩
    subst e
    rcases gE _ hE2 with e | e
    · exact .inl (.inl e)
    · exact .inr (Nat.le_trans b1.size e.1)
  · have e1:Z.put i b=Z.hold i:=by unfold CZ.put;rw [if_neg he]
    have hHE:Hid (Z.put i b=Z.hold i):=e1
    clear e1
    go_enter Tryz.func277,Tryz.ntmps277
    go_wp2_with (first
      | (refine at_boxB (by rfl) _ (by rfl) b (by rfl) ?_;intro gb w1 a1 l1 r1 b1)
      | (go_at_call 134;refine(hH _ b1).mono ?_;rintro e w2 ⟨ov2,f2,E2,F2,rfl,H2,s2,gE,gF⟩))
    go_returns
    exact⟨rfl,ov2,f2,E2,F2,by rw [hHE.out];exact H2,(Stp.of_below b1 (Al E F G)).trans s2,gE.pre b1.size,gF.pre b1.size⟩
set_option maxRecDepth 100000 in
set_option maxHeartbeats 2000000 in
theorem cforce_any {w:World} {gc g mp:Nat} {sp ov:Value} {Z:CZ} {f:Int→Option Value} {E F G:Nat→Prop} {t:Nat} (H:Cx w gc g sp Z mp ov f E F G) (ok:Z.ok t) (ht:t≤10000) (i:Int) (hwi:(Lit.int .i64 i).wf=true) (b:Blk):
    Calls Tryz.prog 276 #[.pointer (some ⟨gc,0,none⟩), .int .i64 i, .agg b.cs.toArray] w fun e w'=>e= .returned (.int .i64 (Z.forceE i))∧To gc g mp sp E F G (Z.force i b) w w':=by
  have hH:=fun u (hu:Below w.heap.size w u)=>hold_any (H.later hu) ok ht i hwi
  by_cases he:Z.holdE i=0
  · obtain⟨q,rs,hl⟩:=hold_head he
    have okh:=ok.hold i
    have e1:Z.force i b=(Z.hold i).frc i b:=by unfold CZ.force;rw [if_pos he]
    have e2:Z.forceE i=useRes (Z.hold i).d (Z.hold i).p i:=by unfold CZ.forceE;rw [if_pos he]
    rw [he]at hH;rw [e1,e2];clear e1 e2 he
    generalize Z.hold i=Y at *
    go_enter Tryz.func276,Tryz.ntmps276
    go_wp2_with (first
      | (refine at_boxB (by rfl) _ (by rfl) b (by rfl) ?_;intro gb w1 a1 l1 r1 b1)
      | (go_at_call 134;refine(hH _ b1).mono ?_;rintro e w2 ⟨ov2,f2,E2,F2,rfl,H2,s2,gE,gF⟩
         obtain⟨r,hr,hE2,hc⟩:=H2.page (fnd_head hl)
         rw [hp0,hr]
         have r2:Cs w2 gb b.cs:=r1.step s2 (H.far gb a1)
         clear hH))
    have hgF:¬F2 gb∧¬G gb:=by
      refine⟨fun e=>?_,fun e=>?_⟩
      · rcases gF gb e with e | e
        · exact H.far gb a1 (.inr (.inl e))
        · omega
      · exact H.far gb a1 (.inr (.inr e))
    obtain⟨y0,_⟩:=H2.cm.cells
    have hS:∀ u,Stp (fun x=>F2 x∨G x) w2 u→(u.cell? ⟨gc,0,none⟩=some (.pointer (some ⟨g,0,none⟩))∧u.rangeAt gb 0 b.cs):=fun u hu=>
      ⟨hu.cell y0 (fun e=>by rcases e with e | e;exact H2.ef gc H2.cm.eg e;exact H2.eg gc H2.cm.eg e),hu.range r2.range (fun e=>by rcases e with e | e;exact hgF.1 e;exact hgF.2 e)⟩
    have hW:=fun u (hu:Below w2.heap.size w2 u)=>force_any (H2.later hu).dd (okh.oOk (by omega)) i b
    refine wp_region_held_drew (S:=fun u=>u.cell? ⟨gc,0,none⟩=some (.pointer (some ⟨g,0,none⟩))∧u.rangeAt gb 0 b.cs) (by kernel_rfl) (hS _ (Stp.refl _ w2).drew) (fun hHeld=>?_)
    refine tk (i:=0) (oi:=⟨some 19, .move (.tmp 0),107,_,#[],none⟩) (v:= .pointer (some ⟨gc,0,none⟩)) rfl (Or.inl ⟨by rfl,?_⟩) hHeld ?_
    · intro u hu
      go_simp
    try simp only [zp,zn,zq,zr,zs]
    refine tk (i:=1) (oi:=⟨some 20, .nilCheck (.tmp 19),0,_,#[⟨0, .data⟩],none⟩) (v:= .pointer (some ⟨gc,0,none⟩)) rfl (Or.inl ⟨by rfl,?_⟩) hHeld ?_
    · intro u hu
      go_simp
    try simp only [zp,zn,zq,zr,zs]
    refine tk (i:=2) (oi:=⟨some 21, .fieldAddr 183 (.tmp 20) 0,0,_,#[⟨1, .data⟩],none⟩) (v:= .pointer (some ⟨gc,0,none⟩)) rfl (Or.inl ⟨by rfl,?_⟩) hHeld ?_
    · intro u hu
      go_simp
    try simp only [zp,zn,zq,zr,zs]
    refine tk (i:=3) (oi:=⟨some 22, .load 32 (.tmp 21),32,_,#[⟨2, .data⟩],none⟩) (v:= .pointer (some ⟨g,0,none⟩)) rfl (Or.inl ⟨by rfl,?_⟩) hHeld ?_
    · intro u hu
      have x1:=hu.1;go_simp
    try simp only [zp,zn,zq,zr,zs]
    refine tk (i:=4) (oi:=⟨some 23, .move (.tmp 1),3,_,#[],none⟩) (v:= .int .i64 i) rfl (Or.inl ⟨by rfl,?_⟩) hHeld ?_
    · intro u hu
      go_simp
    try simp only [zp,zn,zq,zr,zs]
    refine tk (i:=5) (oi:=⟨some 24, .load 64 (.tmp 5),64,_,#[],none⟩) (v:= .agg b.cs.toArray) rfl
      (yields_B (by rfl) _ (by rfl) gb 0 (by rfl) b (fun u hu=>hu.2)) hHeld ?_
    try simp only [zp,zn,zq,zr,zs]
    refine wpAnyH_ready (rs:= [6]) (by kernel_rfl) (by simp) ?_
    refine(AllReadyH.cons (o:=⟨some 25, .call { callee:=Callee.value (.func 307),args:=#[.tmp 22, .tmp 23, .tmp 24],argTypes:=#[32,3,64]},28,_,#[⟨3, .data⟩,⟨4, .data⟩,⟨5, .data⟩],none⟩) rfl (fun K hK=>?_) AllReadyH.nil)
    go_simp
    refine(hW _ (Below.refl _ _).drew).mono ?_
    rintro e w3 ⟨rfl,hD,hk⟩
    try go_wp2_with fail
    have hk2:Stp (fun x=>F2 x∨G x) w2 w3:=((Stp.refl _ w2).drew).trans hk
    refine hK.out _ _ (hS _ hk2) (fun hHeld=>?_)
    clear hK K
    try simp only [zp,zn,zq,zr,zs]
    refine tk (i:=7) (oi:=⟨some 9, .assign (.tmp 25),28,_,#[⟨6, .data⟩,⟨6, .chain⟩,⟨0, .phase⟩,⟨1, .phase⟩,⟨2, .phase⟩,⟨3, .phase⟩,⟨4, .phase⟩,⟨5, .phase⟩,⟨6, .phase⟩],none⟩) (v:= .int .i64 (useRes Y.d Y.p i)) rfl (Or.inl ⟨by rfl,?_⟩) hHeld ?_
    · intro u hu
      go_simp
    try simp only [zp,zn,zq,zr,zs]
    refine wpAnyH_done (by kernel_rfl) ?_ _
    clear hHeld hS hW
    have H3:=H2.disk hk2 hD (Grew.refl _ _ _)
    have S2:Stp (Al E F G) w w2:=(Stp.of_below b1 (Al E F G)).trans s2
    have S3:Stp (Al E F G) w w3:=S2.next hk2 (fun x e=>by
      rcases e with e | e
      · rcases gF x e with e | e
        · exact .inl (.inr (.inl e))
        · exact .inr (Nat.le_trans b1.size e.1)
      · exact .inl (.inr (.inr e)))
    have gE3:Grew E E2 w w3:=Grew.trans (b:=w2) (gE.pre b1.size) (Grew.refl _ _ _) S2.size hk2.size
    have gF3:Grew F F2 w w3:=Grew.trans (b:=w2) (gF.pre b1.size) (Grew.refl _ _ _) S2.size hk2.size
    have hc3:Cs w3 r q.cs:=hc.step hk2 (fun e=>by rcases e with e | e;exact H2.ef r hE2 e;exact H2.eg r hE2 e)
    have r3:Cs w3 gb b.cs:=r2.step hk2 (fun e=>by rcases e with e | e;exact hgF.1 e;exact hgF.2 e)
    clear r2 hc hk hk2 s2 r1 b1 gE gF y0
    by_cases hu:useRes Y.d Y.p i=0
    · have e5:Y.frc i b=CZ.onHd { Y with d:=Y.d.force Y.p i b,p:=useP Y.d Y.p i} (fun q=>⟨b,false,q.pn⟩):=by
        unfold CZ.frc CZ.onHd;rw [if_pos hu]
      have hE5:Hid (Y.frc i b=CZ.onHd { Y with d:=Y.d.force Y.p i b,p:=useP Y.d Y.p i} (fun q=>⟨b,false,q.pn⟩)∧useRes Y.d Y.p i=0):=⟨e5,hu⟩
      rw [hu];clear e5 hu
      go_wp2_with (first
        | (refine at_getB (by rfl) _ (by rfl) gb (by rfl) b r3.range ?_)
        | (refine at_putPC (by rfl) _ _ (by rfl) r (by rfl) b (by rfl) q hc3 ?_;intro w4 r4 s4
           have x3:=Pg.ch_cell r4
           have v3:=r4.frozen 64))
      go_returns
      have s5:Stp (fun x=>x=r) w4 (w4.setCell ⟨r,64,none⟩ (.bool false)):=(Stp.refl (fun x=>x=r) w4).setCell (p:=⟨r,64,none⟩) (.inl rfl) _
      have s6:=s4.trans s5
      have H4:=H3.hd (u:=fun q=>⟨b,false,q.pn⟩) okh.nd hl hr s6 (Pg.set_ch r4 false)
      refine⟨by rw [hE5.out.2];rfl,ov2,f2,E2,F2,by rw [hE5.out.1];exact H4,S3.next s6 (fun x e=>?_),Grew.trans (b:=w3) gE3 (Grew.refl _ _ _) S3.size s6.size,Grew.trans (b:=w3) gF3 (Grew.refl _ _ _) S3.size s6.size⟩
      subst e
      rcases gE3 _ hE2 with e | e
      · exact .inl (.inl e)
      · exact .inr e.1
    · have e5:Y.frc i b= { Y with d:=Y.d.force Y.p i b,p:=useP Y.d Y.p i} :=by
        unfold CZ.frc;rw [if_neg hu]
      have hE5:Hid (Y.frc i b= { Y with d:=Y.d.force Y.p i b,p:=useP Y.d Y.p i}):=e5
      clear e5
      go_wp2
      go_returns
      exact⟨rfl,ov2,f2,E2,F2,by rw [hE5.out];exact H3,S3,gE3,gF3⟩
  · have e1:Z.force i b=Z.hold i:=by unfold CZ.force;rw [if_neg he]
    have e2:Z.forceE i=Z.holdE i:=by unfold CZ.forceE;rw [if_neg he]
    rw [e1,e2];clear e1 e2
    go_enter Tryz.func276,Tryz.ntmps276
    go_wp2_with (first
      | (refine at_boxB (by rfl) _ (by rfl) b (by rfl) ?_;intro gb w1 a1 l1 r1 b1)
      | (go_at_call 134;refine(hH _ b1).mono ?_;rintro e w2 ⟨ov2,f2,E2,F2,rfl,H2,s2,gE,gF⟩))
    go_returns
    exact⟨rfl,ov2,f2,E2,F2,H2,(Stp.of_below b1 (Al E F G)).trans s2,gE.pre b1.size,gF.pre b1.size⟩
theorem cnew_bad {w:World} (v:Value) (n:Int) (h:v= .pointer none∨((∃ g,v= .pointer (some ⟨g,0,none⟩))∧(n < 1∨64 < n))):
    Calls Tryz.prog 46 #[v, .int .i64 n] w fun e w'=>e= .returned (.tuple #[.pointer none, .int .i64 2])∧w=w':=by
  rcases h with rfl | ⟨⟨g,rfl⟩,h⟩
  · go_enter Tryz.func46,Tryz.ntmps46
    go_wp2
    go_returns
    exact⟨rfl,rfl⟩
  · by_cases h1:n < 1
    · clear h
      go_enter Tryz.func46,Tryz.ntmps46
      go_wp2
      go_returns
      exact⟨rfl,rfl⟩
    · have h2:64 < n:=by omega
      clear h
      go_enter Tryz.func46,Tryz.ntmps46
      go_wp2
      go_returns
      exact⟨rfl,rfl⟩
def CZ.new (d:DS) (p:Option PS) (n:Nat):CZ:=⟨d,p,n, [],0,0⟩
theorem CZ.new_ok {d:DS} {p:Option PS} {n t:Nat} (h1:1≤n) (h2:n≤64) (hw:∀ i,(d.wt i).length≤t) (hp:∀ s,p=some s→okAt s t):(CZ.new d p n).ok t:=
  ⟨h1,h2,List.nodup_nil,(fun e he=>by cases he),Nat.zero_le _,(fun e he=>by cases he),hw,hp⟩
theorem cnew_good {w:World} {g:Nat} {sp:Value} {d:DS} {p:Option PS} {F G:Nat→Prop} (hd:DD w g sp d p F G) (n:Nat) (h1:1≤n) (h2:n≤64):
    Calls Tryz.prog 46 #[.pointer (some ⟨g,0,none⟩), .int .i64 (n:Int)] w fun e w'=>∃ gc mp E,e= .returned (.tuple #[.pointer (some ⟨gc,0,none⟩), .int .i64 0])∧Cx w' gc g sp (CZ.new d p n) mp (.slice none 0 0) (fun _=>none) E F G∧Below w.heap.size w w'∧(∀ x,E x→w.heap.size≤x):=by
  have a1:(1:Int)≤(n:Int):=by omega
  have a2:(n:Int)≤64:=by omega
  go_enter Tryz.func46,Tryz.ntmps46
  go_wp2_with (refine at_makeM _ (by rfl) (by rfl) ?_;intro mp w1 l1 m1 b1)
  go_returns
  have b2:Below w1.heap.size w1 (w1.alloc (.cells #[.pointer (some ⟨g,0,none⟩), .int .i64 (n:Int), .map (some mp), .slice none 0 0, .int .i64 0, .int .i64 0] 183)):=(Below.refl _ w1).alloc (Nat.le_refl _) _
  have B2:=bnext b1 b2 (Nat.le_refl _)
  have hm1:=m1.lt
  refine⟨w1.heap.size,mp,(fun x=>x=w1.heap.size∨x=mp),rfl,⟨hd.step (Stp.of_below B2 (fun _=>False)) (fun _ _=>id) (fun _ _=>id),⟨?_,OwV.nil _,m1.step (Stp.of_below b2 (fun _=>False)) id,(fun k q hq=>by cases hq),fun _ _=>rfl,(fun a b s e _=>by cases e), .inl rfl, .inr rfl,(fun r hr=>by cases hr),fun x hx=>?_⟩,fun x hx e=>?_,fun x hx e=>?_⟩,B2,fun x hx=>?_⟩
  · exact Cs.made w1 [.pointer (some ⟨g,0,none⟩), .int .i64 (n:Int), .map (some mp), .slice none 0 0, .int .i64 0, .int .i64 0] 183 (by intro v hv;simp at hv;rcases hv with rfl | rfl | rfl | rfl | rfl<;>rfl)
  · rcases hx with rfl | rfl
    · simp
    · have:=b2.size;omega
  · have:=hd.d.lt x e
    have:=b1.size
    rcases hx with rfl | rfl<;>omega
  · have:=hd.gl x e
    have:=b1.size
    rcases hx with rfl | rfl<;>omega
  · have:=b1.size
    rcases hx with rfl | rfl<;>omega
def Ca (u:World) (gc g:Nat) (sp:Value) (Z:CZ) (U:Nat→Prop):Prop:=∃ mp ov f E F G,Cx u gc g sp Z mp ov f E F G∧∀ x,U x↔Al E F G x
def Goes (gc g:Nat) (sp:Value) (Z':CZ) (U:Nat→Prop) (w w':World):Prop:=∃ U',Ca w' gc g sp Z' U'∧Stp U w w'∧Grew U U' w w'
section
variable {u u' : World} {gc g : Nat} {sp : Value} {Z Z' : CZ} {U B : Nat → Prop} {t : Nat}
theorem Ca.lt (h:Ca u gc g sp Z U):∀ x,U x→x < u.heap.size:=by
  obtain⟨mp,ov,f,E,F,G,H,hU⟩:=h
  intro x hx
  exact Nat.lt_of_not_le (fun hl=>H.far x hl ((hU x).1 hx))
theorem Ca.step (h:Ca u gc g sp Z U) (k:Stp B u u') (hB:∀ x,U x→¬B x):Ca u' gc g sp Z U:=by
  obtain⟨mp,ov,f,E,F,G,H,hU⟩:=h
  exact⟨mp,ov,f,E,F,G,H.step k (fun x hx=>hB x ((hU x).2 (.inl hx))) (fun x hx=>hB x ((hU x).2 (.inr (.inl hx)))) (fun x hx=>hB x ((hU x).2 (.inr (.inr hx)))),hU⟩
theorem Ca.later (h:Ca u gc g sp Z U) (k:Below u.heap.size u u'):Ca u' gc g sp Z U:=h.step (Stp.of_below k (fun _=>False)) (fun _ _=>id)
theorem to_goes {mp:Nat} {E F G:Nat→Prop} (h:To gc g mp sp E F G Z' u u') (hU:∀ x,U x↔Al E F G x):Goes gc g sp Z' U u u':=by
  obtain⟨ov',f',E',F',h1,h2,h3,h4⟩:=h
  refine⟨Al E' F' G,⟨mp,ov',f',E',F',G,h1,fun _=>Iff.rfl⟩,h2.mono (fun x hx=> .inl ((hU x).2 hx)),fun x hx=>?_⟩
  rcases Al.grew h3 h4 x hx with e | e
  · exact .inl ((hU x).2 e)
  · exact .inr e
theorem get_ca (h:Ca u gc g sp Z U) (ok:Z.ok t) (ht:t≤9000) (i:Int) (hi:(Lit.int .i64 i).wf=true):
    Calls Tryz.prog 76 #[.pointer (some ⟨gc,0,none⟩), .int .i64 i] u fun e u'=>e= .returned (.tuple #[.agg (Z.got i).cs.toArray, .int .i64 (Z.holdE i)])∧Goes gc g sp (Z.hold i) U u u':=by
  obtain⟨mp,ov,f,E,F,G,H,hU⟩:=h
  exact(get_anyC H ok (by omega) i hi).mono (fun e u' ⟨h1,h2⟩=>⟨h1,to_goes h2 hU⟩)
theorem put_ca (h:Ca u gc g sp Z U) (ok:Z.ok t) (ht:t≤9000) (i:Int) (hi:(Lit.int .i64 i).wf=true) (b:Blk):
    Calls Tryz.prog 277 #[.pointer (some ⟨gc,0,none⟩), .int .i64 i, .agg b.cs.toArray] u fun e u'=>e= .returned (.int .i64 (Z.holdE i))∧Goes gc g sp (Z.put i b) U u u':=by
  obtain⟨mp,ov,f,E,F,G,H,hU⟩:=h
  exact(put_any H ok (by omega) i hi b).mono (fun e u' ⟨h1,h2⟩=>⟨h1,to_goes h2 hU⟩)
theorem force_ca (h:Ca u gc g sp Z U) (ok:Z.ok t) (ht:t≤9000) (i:Int) (hi:(Lit.int .i64 i).wf=true) (b:Blk):
    Calls Tryz.prog 276 #[.pointer (some ⟨gc,0,none⟩), .int .i64 i, .agg b.cs.toArray] u fun e u'=>e= .returned (.int .i64 (Z.forceE i))∧Goes gc g sp (Z.force i b) U u u':=by
  obtain⟨mp,ov,f,E,F,G,H,hU⟩:=h
  exact(cforce_any H ok (by omega) i hi b).mono (fun e u' ⟨h1,h2⟩=>⟨h1,to_goes h2 hU⟩)
theorem back_ca (h:Ca u gc g sp Z U) (ok:Z.ok t) (ht:t≤9000) (i:Int) (hi:(Lit.int .i64 i).wf=true):
    Calls Tryz.prog 278 #[.pointer (some ⟨gc,0,none⟩), .int .i64 i] u fun e u'=>e= .returned (.int .i64 (Z.backE i))∧Goes gc g sp (Z.back i) U u u':=by
  obtain⟨mp,ov,f,E,F,G,H,hU⟩:=h
  exact(back_anyC H ok (by omega) i hi).mono (fun e u' ⟨h1,F',h2,h3,h4⟩=>⟨h1,to_goes ⟨ov,f,E,F',h2,h3,Grew.refl _ _ _,h4⟩ hU⟩)
theorem read_ca (h:Ca u gc g sp Z U) (i:Int) (hi:(Lit.int .i64 i).wf=true):
    Calls Tryz.prog 27 #[.pointer (some ⟨g,0,none⟩), .int .i64 i] u fun e u'=>e= .returned (.tuple #[.agg (Z.d.shown i).cs.toArray, .int .i64 (checkErr Z.d i)])∧Below u.heap.size u u':=by
  obtain⟨mp,ov,f,E,F,G,H,hU⟩:=h
  exact read_anyD H.dd.d i hi
theorem cnew_ca {d:DS} {p:Option PS} {F G:Nat→Prop} (hd:DD u g sp d p F G) (n:Nat) (h1:1≤n) (h2:n≤64):
    Calls Tryz.prog 46 #[.pointer (some ⟨g,0,none⟩), .int .i64 (n:Int)] u fun e u'=>∃ gc U,e= .returned (.tuple #[.pointer (some ⟨gc,0,none⟩), .int .i64 0])∧Ca u' gc g sp (CZ.new d p n) U∧Below u.heap.size u u'∧(∀ x,U x→F x∨G x∨u.heap.size≤x):=
  (cnew_good hd n h1 h2).mono (fun e u' ⟨gc,mp,E,h1,h2,h3,h4⟩=>⟨gc,Al E F G,h1,⟨mp,_,_,E,F,G,h2,fun _=>Iff.rfl⟩,h3,fun x hx=>by
    rcases hx with e | e | e
    · exact .inr (.inr (h4 x e))
    · exact .inl e
    · exact .inr (.inl e)⟩)
end
def b7:Blk:=⟨7::List.replicate 63 0,by simp⟩
def z0:CZ:=CZ.new (DS.new 3) none 1
structure A3 where
  d:Int
  t:Int
  b:Blk
end Go.Proofs.YtogdffonjhghcaaGreatDoor
