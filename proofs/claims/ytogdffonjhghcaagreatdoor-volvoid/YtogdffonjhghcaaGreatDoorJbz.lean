/-
  Texts of my own, joined: no statement is proved here.
-/
import Derived.Test.YtogdffonjhghcaaGreatDoorJbv
import Derived.Test.YtogdffonjhghcaaGreatDoorJby
set_option linter.unusedSimpArgs false
set_option linter.unusedVariables false
namespace Go.Proofs.YtogdffonjhghcaaGreatDoor
open Go.ChangeShapes Go.WideShapes Go.ChangeAt Go.RowKit
set_option maxRecDepth 100000
section
variable {ops : Array Oper} {rest : List Oper} {o : Oper} {a : Act} {w : World} {Q : Exit → Act → World → Prop}
theorem vbs_b (x:Int) (w:World):(Instr.buildSlice 53 1 #[(0, .int .u8 x)]).run Tryz.prog w= .ok (.slice (some ⟨w.heap.size,0,none⟩) 1 1) (w.alloc (.cells #[.int .u8 x] 5)):=by kernel_rfl
theorem vbs_i (x:Int) (w:World):(Instr.buildSlice 54 1 #[(0, .int .i64 x)]).run Tryz.prog w= .ok (.slice (some ⟨w.heap.size,0,none⟩) 1 1) (w.alloc (.cells #[.int .i64 x] 3)):=by kernel_rfl
theorem at_bs1b (hw:Region.wanted o (yielded ops a.tmps)=true) (x:Operand) (ho:o.op= .buildSlice 53 1 #[(0,x)]) (z:Int) (hx:a.eval x= .int .u8 z) (hz:0≤z∧z≤255)
    (h:∀ g w',w.heap.size≤g→BsS w' ⟨some ⟨g,0,none⟩,1,1⟩ [z]→Below w.heap.size w w'→wpList Tryz.prog ops Q rest (a.put o.dst (.slice (some ⟨g,0,none⟩) 1 1)) w'):wpList Tryz.prog ops Q (o::rest) a w:=by
  refine op_val hw _ _ ?_ (h w.heap.size (w.alloc (.cells #[.int .u8 z] 5)) (Nat.le_refl _) ?_ ((Below.refl _ _).alloc (Nat.le_refl _) _))
  · simp only [execOp,ho,Sem.run_bind,List.map_toArray,List.map_cons,List.map_nil,hx,vbs_b];rfl
  · exact ⟨rfl,Nat.le_refl _,by show(1:Nat)≤maxLen;decide,(fun e=>by cases e),(fun y hy=>by simp at hy;subst hy;exact hz),fun _=>⟨w.heap.size,0,rfl,fun i hi=>by
      have:i=0:=by simp only at hi;omega
      subst this;simp⟩⟩
theorem at_bs1i (hw:Region.wanted o (yielded ops a.tmps)=true) (x:Operand) (ho:o.op= .buildSlice 54 1 #[(0,x)]) (z:Int) (hx:a.eval x= .int .i64 z) (hz:wfi z)
    (h:∀ g w',w.heap.size≤g→InsS w' ⟨some ⟨g,0,none⟩,1,1⟩ [z]→Below w.heap.size w w'→wpList Tryz.prog ops Q rest (a.put o.dst (.slice (some ⟨g,0,none⟩) 1 1)) w'):wpList Tryz.prog ops Q (o::rest) a w:=by
  refine op_val hw _ _ ?_ (h w.heap.size (w.alloc (.cells #[.int .i64 z] 3)) (Nat.le_refl _) ?_ ((Below.refl _ _).alloc (Nat.le_refl _) _))
  · simp only [execOp,ho,Sem.run_bind,List.map_toArray,List.map_cons,List.map_nil,hx,vbs_i];rfl
  · exact ⟨⟨rfl,Nat.le_refl _,by show(1:Nat)≤maxLen;decide,(fun y hy=>by simp at hy;subst hy;exact hz),fun _=>⟨w.heap.size,0,rfl,fun i hi=>by
      have:i=0:=by simp only at hi;omega
      subst this;simp⟩⟩,(fun e=>by cases e)⟩
theorem vbldP (x:Int) (s:Sv) (w:World):(Instr.build 56 #[(1, .int .i64 x),(3, .slice s.a s.n s.c)]).run Tryz.prog w= .ok (.agg ((⟨0,x,0, [],0, [],0,0,false⟩:Pt).cs s Sv.nil).toArray) w:=by kernel_rfl
theorem at_bldPt (hw:Region.wanted o (yielded ops a.tmps)=true) (x y:Operand) (ho:o.op= .build 56 #[(1,x),(3,y)]) (z:Int) (g:Nat) (hx:a.eval x= .int .i64 z) (hy:a.eval y= .slice (some ⟨g,0,none⟩) 1 1)
    (h:wpList Tryz.prog ops Q rest (a.put o.dst (.agg ((⟨0,z,0, [],0, [],0,0,false⟩:Pt).cs ⟨some ⟨g,0,none⟩,1,1⟩ Sv.nil).toArray)) w):wpList Tryz.prog ops Q (o::rest) a w:=by
  refine op_val hw _ _ ?_ h
  have:=vbldP z ⟨some ⟨g,0,none⟩,1,1⟩ w
  simp only at this
  simp only [execOp,ho,Sem.run_bind,List.map_toArray,List.map_cons,List.map_nil,hx,hy,this];rfl
end
set_option maxHeartbeats 4000000 in
theorem shape_zero (u:World):Calls Tryz.prog 14 #[.int .u16 0] u fun e w'=>e= .returned (.agg #[.int .i64 1, .int .i64 1, .int .i64 6])∧Below u.heap.size u w':=by
  go_enter Tryz.func14,Tryz.ntmps14
  go_wp2_with (first
    | (refine at_newG (by rfl) (by rfl) ?_;intro g2 w2 a2 z2 r2 b2)
    | (refine at_putG (by rfl) _ _ (by rfl) g2 (by rfl) ⟨1,1,6⟩ (by rfl) _ r2 ?_;intro w3 r3 s3))
  refine bodyPost_ret (retG1 Tryz.results14 rfl r3) rfl ⟨rfl,((Stp.of_below b2 (fun _=>False)).next s3 (fun x e=> .inr (by omega))).below (Nat.le_refl _) (fun x e=>e.elim)⟩
theorem wPt_wfp:wPt.wfp:=⟨wfi_of (by decide),wfi_of (by decide),wfi_of (by decide),wfi_of (by decide),wfi_of (by decide),wfi_of (by decide)⟩
theorem row_byte {w:World} {g:Nat} {b:Blk} (h:Row w g b.l) (hb:(b.l.getD 0 0).toNat=9):w.cell? ⟨g,0,none⟩=some (.int .u8 9):=by
  have hl:=b.len
  have :=h.range 0 (.int .u8 ((b.l.getD 0 0).toNat:Int)) (by
    rw [List.getElem?_map,List.getElem?_eq_getElem (by omega),List.getD_eq_getElem?_getD,List.getElem?_eq_getElem (by omega)];rfl)
  rw [hb]at this;simpa using this
set_option maxHeartbeats 8000000 in
theorem works17_any (u:World) (ht:Tab u):Calls Tryz.prog 7 #[] u fun e w'=>e= .returned (.bool true)∧Below u.heap.size u w':=by
  have hSh:=shape_zero u
  have hBl:=fun w=>blank_any wG 11 w_tot (by omega) w
  have hMd:∀ w b,Wd w b 11 11 (blkL wG 11)→Tab w→_:=fun w b h t=>made_any h t 4 (by omega) (by omega)
  have hm0:Hid (mkE ((DS.new 11).load (blkL wG 11)) 4=0):=by show _=_;unfold mkE;rw [if_neg (by omega)];exact w_find
  have e0:Hid (VZ.new ((DS.new 11).load (blkL wG 11)) PS.fresh.turn (WS.turn ⟨0,0,0⟩ 0 PS.fresh) (4:Int).toNat=wV0):=rfl
  have ok0:=w_ok0
  have ok1:VOk 6 1 wV1:=ok0.pat wPt (by decide)
  have ok2:VOk 7 1 wV2:=ok1.look 6
  have t1:Hid True:=trivial
  have t2:Hid True:=trivial
  go_enter Tryz.func7,Tryz.ntmps7
  go_wp2_with (first
    | (go_at_call 14;refine hSh.mono ?_;rintro e w1 ⟨rfl,b1⟩;clear hSh)
    | (go_at_call 13;refine(hBl _).mono ?_;rintro e w2 ⟨gb,rfl,l2,r2,b2⟩;clear hBl
       have ht2:=ht.later (bnext b1 b2 (Nat.le_refl _)))
    | (go_at_call 8;refine(hMd _ _ r2 ht2).mono ?_;rintro e w3 ⟨g6,sP,gD,gW,qq,ge,gx,pv,py,rfl,q3,b3,HM⟩;clear hMd
       obtain⟨-,A,U,E,F,gy,yc,gp,K,rfl,rfl,rfl,rfl,rfl,z3,WZ⟩:=Or.resolve_left HM (fun h=>h.1 hm0.out)
       have H3:=WZ.vx
       rw [e0.out]at H3
       have n3:=WZ.ng.1
       have f3:=WZ.lo.1
       have l3:=WZ.lo.2.2
       clear WZ HM
       have y3:=q3.cell 3 _ rfl
       have T3:=H3.lt)
    | (refine at_bs1b (by rfl) _ (by rfl) 9 (by rfl) (by omega) ?_;intro g4 w4 l4 d4 b4
       have hPa:=vpatch_any (X:=fun x=>w3.heap.size≤x) (T:=Vt A U E F) (H3.later b4) ok0 (by omega) (by omega) (fun _=>Iff.rfl) wPt ⟨some ⟨g4,0,none⟩,1,1⟩ Sv.nil wPt_wfp ⟨d4,InsS.nil w4,fun ad e h0=>by injection e with e;subst e;exact l4,InE.nil _⟩ (fun x hx hf=>by have:=T3 x (.inr (.inr (.inl hf)));omega) (by decide) (by decide)
       rw [w_n1,w_e1]at hPa)
    | (refine at_bldPt (by rfl) _ _ (by rfl) 6 g4 (by rfl) (by rfl) ?_)
    | (go_at_call 28;refine hPa.mono ?_;rintro e w5 ⟨rfl,k5⟩;clear hPa
       have k5':VG A wV1 (Vt A U E F) w4 w5:=k5
       obtain⟨T5,⟨U5,E5,F5,H5,hT5⟩,s5,g5⟩:=k5'
       have q5:=(q3.step (Stp.of_below b4 (fun _=>False)) id).step s5 n3
       have y5:=q5.cell 3 _ rfl
       have L5:∀ x,T5 x→x < w5.heap.size:=fun x hx=>H5.lt x ((hT5 x).1 hx)
       have n5:¬T5 g6:=fun e=>by rcases g5 _ e with e | e;exact n3 e;have:=q3.lt;have:=b4.size;omega
       have hNw:=vnow_any H5 ok1 (by omega) 6 (wfi_of (by omega)) hT5
       rw [w_e2]at hNw
       have hb2:=w_b2
       generalize wV1.nowB 6=B2 at hNw hb2
       have hB2:=B2.len
       clear y3 k5)
    | (go_at_call 17;refine hNw.mono ?_;rintro e w6 ⟨rfl,k6⟩;clear hNw
       have k6':VG A wV2 T5 w5 w6:=k6
       obtain⟨T6,⟨U6,E6,F6,H6,hT6⟩,s6,g66⟩:=k6'
       have q6:=q5.step s6 n5
       have L6:∀ x,T6 x→x < w6.heap.size:=fun x hx=>H6.lt x ((hT6 x).1 hx)
       have n6:¬T6 g6:=fun e=>by rcases g66 _ e with e | e;exact n5 e;have:=q5.lt;omega
       clear y5 k6)
    | (clear t1;refine at_new 64 64 arrB (by rfl) (by rfl) ?_;intro g7 w7 l7 z7 r7 b7)
    | (have _t:=t2;refine at_put 64 64 arrB (by rfl) _ _ (by rfl) g7 (by rfl) B2.l (by rfl) hB2 _ r7 (by simp) ?_;intro w8 r8 s8
       have H8:=(H6.later b7).step s8 (fun x hx e=>by subst e;have:=L6 _ ((hT6 _).2 hx);omega)
       have q8:=(q6.step (Stp.of_below b7 (fun _=>False)) id).step s8 (fun e=>by have:=q6.lt;omega)
       have y8:=q8.cell 3 _ rfl
       have k7:=b7.size
       have k8:=s8.size)
    | (refine at_bs1i (by rfl) _ (by rfl) 1 (by rfl) (wfi_of (by omega)) ?_;intro g9 w9 l9 i9 b9
       have H9:=H8.later b9
       have hSt:=vsettle_any (B:=fun x=>w8.heap.size≤x) (T:=T6) H9 ok2 i9 (fun ad e h0=>by injection e with e;subst e;exact l9) (fun x hx e=>by have:=L6 x e;omega) (by decide) (M:=1) (N:=1) w_l2 (by omega) w_n2 (by omega) hT6
       rw [w_r3]at hSt)
    | (go_at_call 31;refine hSt.mono ?_;rintro e w10 ⟨r,hr,rfl,k10⟩;clear hSt
       injection hr with hr
       subst hr
       have k10':VG A wV3 T6 w9 w10:=k10
       obtain⟨T10,⟨U10,E10,F10,H10,hT10⟩,s10,g10⟩:=k10'
       have q10:=(q8.step (Stp.of_below b9 (fun _=>False)) id).step s10 n6
       have n7:¬T6 g7:=fun e=>by have:=L6 _ e;omega
       have r10:=(r8.later b9).step s10 n7
       have L10:∀ x,T10 x→x < w10.heap.size:=fun x hx=>H10.lt x ((hT10 x).1 hx)
       have y10:=q10.cell 1 _ rfl
       have hRd:=read_ca H10.ca 6 (wfi_of (by omega))
       have hd3:=w_d3
       have k9:=b9.size
       generalize wV3.c.d.shown 6=B3 at hRd hd3
       generalize checkErr wV3.c.d 6=ce at hRd
       have hB3:=B3.len
       clear y8 k10)
    | (go_at_call 27;refine hRd.mono ?_;rintro e w11 ⟨rfl,b11⟩;clear hRd y10)
    | (clear t2;refine at_new 64 64 arrB (by rfl) (by rfl) ?_;intro g12 w12 l12 z12 r12 b12)
    | (refine at_put 64 64 arrB (by rfl) _ _ (by rfl) g12 (by rfl) B3.l (by rfl) hB3 _ r12 (by simp) ?_;intro w13 r13 s13
       have B13:Below w10.heap.size w10 w13:=((Stp.of_below (bnext b11 b12 (Nat.le_refl _)) (fun _=>False)).next s13 (fun x e=> .inr (by have:=b11.size;omega))).below (Nat.le_refl _) (fun x e=>e.elim)
       have c7:=row_byte (r10.later B13) hb2
       have c12:=row_byte r13 hd3
       have H13:=H10.later B13
       have q13:=q10.step (Stp.of_below B13 (fun _=>False)) id
       have y2:=q13.cell 2 _ rfl
       have t3:Hid True:=trivial
       have hMk:=marked_any A.w 0 wV3.w (some A.s) w13 H13.ww (by omega)
       rw [w_w3]at hMk)
    | (go_at_call 34;clear t3;refine hMk.mono ?_;rintro e w14 ⟨rfl,b14⟩;clear hMk y2 c7 c12
       have H14:=H13.later b14
       have q14:=q13.step (Stp.of_below b14 (fun _=>False)) id
       have y3:=q14.cell 3 _ rfl
       have ok3:=ok2.cary H9.gh.ok.srt wL wF
       have hSy:=vsync_nil (V:=wV3) H14 ok3 (by have:=w_ll;omega) w_g3
       rw [w_e4]at hSy)
    | (go_at_call 18;refine hSy.mono ?_;rintro e w15 ⟨rfl,H15,s15⟩;clear hSy y3
       have n15:¬(g6=A.w∨U10 g6):=fun e=>by
         have hh:T10 g6:=(hT10 g6).2 (by rcases e with e | e;subst e;unfold Vt;simp;exact .inl e)
         rcases g10 _ hh with e | e
         · exact n6 e
         · have:=q8.lt;omega
       have q15:=q14.step s15 n15
       have y15:=q15.cell 2 _ rfl
       have hMk:=marked_any A.w 0 (wV3.tn 0).w (some A.s) w15 H15.ww (by omega)
       rw [w_w4]at hMk)
    | (go_at_call 34;refine hMk.mono ?_;rintro e w16 ⟨rfl,b16⟩;clear hMk))
  go_returns
  refine⟨rfl,?_⟩
  have k0:=b1.size
  have k2:=b2.size
  have k3:=b3.size
  have k4:=b4.size
  have hz:∀ x,T10 x→x=0∨u.heap.size≤x:=fun x hx=>by
    rcases g10 x hx with h | h
    · rcases g66 x h with h | h
      · rcases g5 x h with h | h
        · rcases f3 x h with h | h
          · exact .inl h
          · exact .inr (by omega)
        · exact .inr (by omega)
      · have:=s5.size;exact .inr (by omega)
    · have:=s5.size;have:=s6.size;exact .inr (by omega)
  have z6:∀ x,T6 x→x=0∨u.heap.size≤x:=fun x h=>by
    rcases g66 x h with h | h
    · rcases g5 x h with h | h
      · rcases f3 x h with h | h
        · exact .inl h
        · exact .inr (by omega)
      · exact .inr (by omega)
    · have:=s5.size;exact .inr (by omega)
  have z5:∀ x,T5 x→x=0∨u.heap.size≤x:=fun x h=>by
    rcases g5 x h with h | h
    · rcases f3 x h with h | h
      · exact .inl h
      · exact .inr (by omega)
    · exact .inr (by omega)
  have R:Stp (fun x=>x=0∨u.heap.size≤x) u w15:=((((((((Stp.of_below (bnext (bnext (bnext b1 b2 (Nat.le_refl _)) b3 (Nat.le_refl _)) b4 (Nat.le_refl _)) (fun x=>x=0∨u.heap.size≤x)).next s5 (fun x hx=> .inl (by rcases f3 x hx with h | h;exact .inl h;exact .inr (by omega)))).next s6 (fun x hx=> .inl (z5 x hx))).trans (Stp.of_below b7 _)).next s8 (fun x hx=> .inr (by subst hx;have:=s5.size;have:=s6.size;omega))).trans (Stp.of_below b9 _)).next s10 (fun x hx=> .inl (z6 x hx))).trans (Stp.of_below B13 _)).trans (Stp.of_below b14 _) |>.next s15 (fun x hx=> .inl (hz x ((hT10 x).2 (by rcases hx with e | e;subst e;unfold Vt;simp;exact .inl e))))
  have e15:w15.heap[0]? =u.heap[0]?:=by rw [H15.z0,z3];exact(bnext b1 b2 (Nat.le_refl _)).block 0 ht.lt
  have B15:Below u.heap.size u w15:=⟨R.os,R.tape,R.output,R.size,fun k hk=>by
    by_cases h0:k=0
    · subst h0;exact e15
    · exact R.block k hk (fun e=>by rcases e with e | e;exact h0 e;omega)⟩
  exact bnext B15 b16 (Nat.le_refl _)
end Go.Proofs.YtogdffonjhghcaaGreatDoor
namespace Go.Proofs.YtogdffonjhghcaaGreatDoor.volVoid
open Go.ChangeShapes Go.WideShapes Go.ChangeAt Go.RowKit
set_option maxRecDepth 100000
theorem now_nil (i:Int) (w:World):Calls Tryz.prog 17 #[.pointer none, .int .i64 i] w fun e w'=>e= .returned (.tuple #[.agg Blk.zero.cs.toArray, .int .i64 1])∧Below w.heap.size w w':=by
  go_enter Tryz.func17,Tryz.ntmps17
  go_wp2_with (first
    | (refine at_new 64 64 arrB (by rfl) (by rfl) ?_;intro gr w1 a1 z1 r1 b1)
    | (refine at_bldB (by rfl) (by rfl) ?_)
    | (refine at_put 64 64 arrB (by rfl) _ _ (by rfl) gr (by rfl) Blk.zero.l (by rfl) Blk.zero.len _ r1 (by simp) ?_;intro W6 r6 s6))
  refine bodyPost_ret (retAt arrB Tryz.results17 rfl rfl r6 Blk.zero.len) rfl ⟨rfl,((Stp.of_below b1 (fun _=>False)).next s6 (fun x e=> .inr (by omega))).below (Nat.le_refl _) (fun x e=>e.elim)⟩
theorem load_nil (i k:Int) (w:World):Calls Tryz.prog 10 #[.pointer none, .int .i64 i, .int .i64 k] w fun e w'=>e= .returned (.tuple #[.agg Ld.zero.cs.toArray, .int .i64 1])∧Below w.heap.size w w':=by
  go_enter Tryz.func10,Tryz.ntmps10
  go_wp2_with (first
    | (refine at_new 41 54 arrL (by rfl) (by rfl) ?_;intro gr w1 a1 z1 r1 b1)
    | (go_at_call 17;refine(now_nil _ _).mono ?_;rintro e w2 ⟨rfl,b2⟩)
    | (refine at_new 64 64 arrB (by rfl) (by rfl) ?_;intro gb w3 a3 z3 r3 b3)
    | (refine at_put 64 64 arrB (by rfl) _ _ (by rfl) gb (by rfl) Blk.zero.l (by rfl) Blk.zero.len _ r3 (by simp) ?_;intro w4 r4 s4
       have r5:=((r1.later b2).later b3).step s4 (fun e=>by have:=b2.size;omega))
    | (refine at_bldL (by rfl) (by rfl) ?_)
    | (refine at_put 41 54 arrL (by rfl) _ _ (by rfl) gr (by rfl) Ld.zero.l (by rfl) Ld.zero.len _ r5 (by simp) ?_;intro w6 r6 s6))
  have k1:=b1.size
  have k2:=b2.size
  refine bodyPost_ret (retAt arrL Tryz.results10 rfl rfl r6 Ld.zero.len) rfl ⟨rfl,(((Stp.of_below (bnext (bnext b1 b2 (Nat.le_refl _)) b3 (Nat.le_refl _)) (fun _=>False)).next s4 (fun x e=> .inr (by omega))).next s6 (fun x e=> .inr (by omega))).below (Nat.le_refl _) (fun x e=>e.elim)⟩
theorem patch_nil (p:Pt) (d n:Sv) (w:World):Calls Tryz.prog 28 #[.pointer none, .agg (p.cs d n).toArray] w fun e w'=>e= .returned (.tuple #[.int .i64 0, .int .i64 1])∧Below w.heap.size w w':=by
  go_enter Tryz.func28,Tryz.ntmps28
  go_wp2_with (first
    | (refine at_boxP (by rfl) _ (by rfl) p d n (by rfl) ?_;intro g1 w1 a1 z1 r1 b1))
  go_returns
  exact⟨rfl,b1⟩
theorem pending_nil (w:World):Calls Tryz.prog 24 #[.pointer none] w fun e w'=>e= .returned (.tuple #[.int .i64 0, .int .i64 0])∧w=w':=by
  go_enter Tryz.func24,Tryz.ntmps24
  go_wp2
  go_returns
  exact⟨rfl,rfl⟩
theorem later_nil (cs:List Value) (h1:∀ v ∈ cs,v.oneCell'=true) (w:World):Calls Tryz.prog 29 #[.pointer none, .agg cs.toArray] w fun e w'=>e= .returned (.int .i64 1)∧Below w.heap.size w w':=by
  go_enter Tryz.func29,Tryz.ntmps29
  go_wp2_with (first
    | (refine at_boxC 90 (by rfl) _ (by rfl) cs (by rfl) h1 ?_;intro g1 w1 a1 z1 r1 b1))
  go_returns
  exact⟨rfl,b1⟩
theorem mark_nilV (v:Value) (w:World):Calls Tryz.prog 30 #[.pointer none,v] w fun e w'=>e= .returned (.int .i64 1)∧w=w':=by
  go_enter Tryz.func30,Tryz.ntmps30
  go_wp2
  go_returns
  exact⟨rfl,rfl⟩
theorem settle_nilV (v:Value) (w:World):Calls Tryz.prog 31 #[.pointer none,v] w fun e w'=>e= .returned (.int .i64 1)∧w=w':=by
  go_enter Tryz.func31,Tryz.ntmps31
  go_wp2
  go_returns
  exact⟨rfl,rfl⟩
theorem sync_nilV (v:Value) (w:World):Calls Tryz.prog 18 #[.pointer none,v] w fun e w'=>e= .returned (.int .i64 1)∧w=w':=by
  go_enter Tryz.func18,Tryz.ntmps18
  go_wp2
  go_returns
  exact⟨rfl,rfl⟩
theorem geom_nil (w:World):Calls Tryz.prog 32 #[.pointer none] w fun e w'=>e= .returned (.agg #[.int .i64 0, .int .i64 0, .int .i64 0])∧Below w.heap.size w w':=by
  go_enter Tryz.func32,Tryz.ntmps32
  go_wp2_with (first
    | (refine at_newG (by rfl) (by rfl) ?_;intro g2 w2 a2 z2 r2 b2)
    | (refine at_putG (by rfl) _ _ (by rfl) g2 (by rfl) Gm.zero (by rfl) _ r2 ?_;intro w3 r3 s3))
  refine bodyPost_ret (retG1 Tryz.results32 rfl r3) rfl ⟨rfl,((Stp.of_below b2 (fun _=>False)).next s3 (fun x e=> .inr (by omega))).below (Nat.le_refl _) (fun x e=>e.elim)⟩
theorem graph_nil (w:World):Calls Tryz.prog 33 #[.pointer none] w fun e w'=>e= .returned (.pointer none)∧w=w':=by
  go_enter Tryz.func33,Tryz.ntmps33
  go_wp2
  go_returns
  exact⟨rfl,rfl⟩
theorem bldFr (w:World):(Instr.build 90 #[]).run Tryz.prog w= .ok (.agg [Value.slice none 0 0, .slice none 0 0, .int .i64 0].toArray) w:=by kernel_rfl
theorem at_bldFr {ops:Array Oper} {rest:List Oper} {o:Oper} {a:Act} {w:World} {Q:Exit→Act→World→Prop} (hw:Region.wanted o (yielded ops a.tmps)=true) (ho:o.op= .build 90 #[])
    (h:wpList Tryz.prog ops Q rest (a.put o.dst (.agg [Value.slice none 0 0, .slice none 0 0, .int .i64 0].toArray)) w):wpList Tryz.prog ops Q (o::rest) a w:=by
  refine op_val hw _ _ ?_ h
  simp only [execOp,ho,Sem.run_bind,List.map_toArray,List.map_nil,bldFr];rfl
set_option maxHeartbeats 4000000 in
theorem walk (i:Int) (w:World) (hi:(Lit.int .i64 i).wf=true) (T:∀ i,i < 3→w.cell? ⟨0,i,none⟩=some (.int .i64 ([1,0,2].getD i 0))):
    Calls Tryz.prog 6 #[.int .i64 i] w fun e w'=>e= .returned (.bool true)∧Below w.heap.size w w':=by
  have ht:Tab w:=⟨T 0 (by decide),T 1 (by decide),T 2 (by decide)⟩
  clear T
  have t1:Hid True:=trivial
  go_enter Tryz.func6,Tryz.ntmps6
  go_wp2_with (first
    | (go_at_call 7;refine(works17_any _ ht).mono ?_;rintro e w1 ⟨rfl,b1⟩)
    | (go_at_call 17;refine(now_nil _ _).mono ?_;rintro e w2 ⟨rfl,b2⟩)
    | (refine at_new 64 64 arrB (by rfl) (by rfl) ?_;intro g3 w3 a3 z3 r3 b3)
    | (refine at_put 64 64 arrB (by rfl) _ _ (by rfl) g3 (by rfl) Blk.zero.l (by rfl) Blk.zero.len _ r3 (by simp) ?_;intro w4 r4 s4)
    | (go_at_call 10;refine(load_nil _ _ _).mono ?_;rintro e w5 ⟨rfl,b5⟩)
    | (refine at_new 41 54 arrL (by rfl) (by rfl) ?_;intro g6 w6 a6 z6 r6 b6)
    | (refine at_put 41 54 arrL (by rfl) _ _ (by rfl) g6 (by rfl) Ld.zero.l (by rfl) Ld.zero.len _ r6 (by simp) ?_;intro w7 r7 s7)
    | (refine at_bs1b (by rfl) _ (by rfl) 1 (by rfl) (by omega) ?_;intro g8 w8 a8 d8 b8)
    | (refine at_bldPt (by rfl) _ _ (by rfl) 5 g8 (by rfl) (by rfl) ?_)
    | (go_at_call 28;refine(patch_nil _ _ _ _).mono ?_;rintro e w9 ⟨rfl,b9⟩)
    | (go_at_call 24;refine(pending_nil _).mono ?_;rintro e u ⟨rfl,rfl⟩)
    | (refine at_bldFr (by rfl) (by rfl) ?_)
    | (go_at_call 29;refine(later_nil [Value.slice none 0 0, .slice none 0 0, .int .i64 0] (by intro v hv;simp at hv;rcases hv with rfl | rfl<;>rfl) _).mono ?_;rintro e w10 ⟨rfl,b10⟩)
    | (clear t1;refine at_bs1i (by rfl) _ (by rfl) i (by rfl) hi ?_;intro g11 w11 a11 i11 b11)
    | (go_at_call 30;refine(mark_nilV _ _).mono ?_;rintro e u ⟨rfl,rfl⟩)
    | (refine at_bs1i (by rfl) _ (by rfl) 1 (by rfl) (wfi_of (by omega)) ?_;intro g12 w12 a12 i12 b12)
    | (go_at_call 31;refine(settle_nilV _ _).mono ?_;rintro e u ⟨rfl,rfl⟩)
    | (go_at_call 18;refine(sync_nilV _ _).mono ?_;rintro e u ⟨rfl,rfl⟩)
    | (go_at_call 32;refine(geom_nil _).mono ?_;rintro e w13 ⟨rfl,b13⟩)
    | (go_at_call 33;refine(graph_nil _).mono ?_;rintro e u ⟨rfl,rfl⟩))
  go_returns
  have k1:=b1.size
  have k2:=b2.size
  have k3:=b3.size
  have k4:=s4.size
  have k5:=b5.size
  have B7:Below w.heap.size w w7:=((((Stp.of_below (bnext (bnext b1 b2 (Nat.le_refl _)) b3 (Nat.le_refl _)) (fun _=>False)).next s4 (fun x e=> .inr (by omega))).trans (Stp.of_below (bnext b5 b6 (Nat.le_refl _)) _)).next s7 (fun x e=> .inr (by omega))).below (Nat.le_refl _) (fun x e=>e.elim)
  exact⟨rfl,bnext (bnext (bnext (bnext (bnext (bnext B7 b8 (Nat.le_refl _)) b9 (Nat.le_refl _)) b10 (Nat.le_refl _)) b11 (Nat.le_refl _)) b12 (Nat.le_refl _)) b13 (Nat.le_refl _)⟩
end Go.Proofs.YtogdffonjhghcaaGreatDoor.volVoid
