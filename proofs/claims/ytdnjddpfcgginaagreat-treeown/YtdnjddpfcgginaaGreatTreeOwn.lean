/-
  The statement TreeOwn of layer 25 (tree): what is done to a tree is not seen in its copy, and a tree that is none answers so. Conditions: those of the statement as it was given, none besides.
-/
import Derived.Test.YtdnjddpfcgginaaGreatKbb
import Derived.Test.YtdnjddpfcgginaaGreatKbm
set_option linter.unusedSimpArgs false
set_option linter.unusedVariables false
namespace Go.Proofs.YtdnjddpfcgginaaGreat
open Go.ChangeShapes Go.WideShapes Go.ChangeAt Go.RowKit
set_option linter.unusedVariables false
set_option linter.unusedSimpArgs false
set_option maxRecDepth 100000
end Go.Proofs.YtdnjddpfcgginaaGreat
namespace Go.Proofs.YtdnjddpfcgginaaGreat.treeOwn
open Go.ChangeShapes Go.WideShapes Go.ChangeAt Go.RowKit
set_option maxRecDepth 100000
set_option linter.unusedVariables false
set_option linter.unusedSimpArgs false
set_option maxHeartbeats 16000000 in
theorem walk (a:Option Addr) (n c:Nat) (L:List Ox) (a2:Option Addr) (n2 c2:Nat) (L2:List Ox) (W:World) (hP:Po W (fun x=>x < W.heap.size) ⟨a,n,c⟩ L) (hP2:Po W (fun x=>x < W.heap.size) ⟨a2,n2,c2⟩ L2):
 Calls Tryz.prog 3 #[.slice a n c, .slice a2 n2 c2] W fun e w'=>e= .returned (.bool true)∧Below W.heap.size W w':=by
 have hl:=hP.len
 have hl2:=hP2.len
 simp only at hl hl2
 have hcap:n≤maxLen:=Nat.le_trans hP.le hP.cap
 have hcap2:n2≤maxLen:=Nat.le_trans hP2.le hP2.cap
 unfold maxLen at hcap hcap2
 have hcl:=hP.cell
 have hcl2:=hP2.cell
 simp only at hcl hcl2
 have hclH:Hid _:=hcl
 have hcl2H:Hid _:=hcl2
 clear hcl hcl2
 go_enter Tryz.func3,Tryz.ntmps3
 go_wp2_with (first
  | (go_at_call 5;refine(Zbw _).mono ?_;rintro e w0 ⟨rfl,c0⟩)
  | (go_at_call 6;refine(Z8g _).mono ?_;rintro e w1 ⟨g,U0,q0,rfl,c1,T1,hU1⟩)
  | (go_at_call 7;refine(Zcs _).mono ?_;rintro e w2 ⟨y,V0,rfl,c2,D2,hV2⟩))
 have T2:=T1.later c2
 have B1:=Z00q c0 c1 (Nat.le_refl _)
 have B2:=Z00q B1 c2 (Nat.le_refl _)
 go_loopw [7] (fun iv wr=>∃ (j:Nat) (Z:Tz) (U V:Nat→Prop) (q:Int→Nat),iv= .int .i64 (j:Int)∧j≤n∧j≤20∧Z.ok j∧Tx wr U g q j Z∧Dx wr V y Z∧(∀ x,U x→¬V x)∧(∀ x,U x∨V x→W.heap.size≤x)∧Below W.heap.size W wr) (fun iv _=>20 - (intOf iv).toNat)
 case atStart=>exact⟨0,Tz.new,U0,V0,q0,rfl,Nat.zero_le _,by omega,Z3y,T2,D2,fun x hx hy=>by have:=T1.low x hx;have:=hV2 x hy;omega,fun x hx=>by have:=c0.size;have:=B1.size;rcases hx with e | e;have:=hU1 x e;omega;have:=hV2 x e;omega,B2⟩
 case round=>
  clear T1 T2 D2 c0 c1 c2 B1 B2 hU1 hV2
  obtain⟨j,Z,U,V,q,rfl,hj,hj3,hz,T,D,hUV,hW,Bc⟩:=hrel
  by_cases hlt:j < n∧j < 20
  · obtain⟨b,o,rfl,hbl,hcs⟩:=hclH.out (by omega)
    obtain⟨t,ht⟩:∃ t,L[j]? =some t:=⟨_,List.getElem?_eq_getElem (by omega)⟩
    have htm:t ∈ L:=List.mem_of_getElem? ht
    have hr:=hcs j t ht
    clear hcs
    have hR:∀ u,Below W.heap.size W u→u.rangeAt b (o+j * 8) t.cs:=fun u hu=>(Stp.of_below hu (fun _=>False)).range hr id
    have hD:∀ u,Below W.heap.size W u→BsS u t.d t.o.d:=fun u hu=>(hP.ms t htm).1.later hu
    obtain⟨hwn,hsz⟩:=hP.wf t htm
    have hwo:=Z7s hwn (hP.ms t htm).1.byte
    have a9:(j:Int) < (n:Int):=by omega
    have a8:(j:Int) < 20:=by omega
    have a7:(0:Int)≤(j:Int):=by omega
    have wz:=Bc.size
    go_wp2_with (first
     | (refine Z91 (by rfl) _ (by rfl) b (o+j * 8) (by rfl) t (hR _ Bc) ?_)
     | (go_at_call 9;refine(Z96 (hD _ Bc) hsz).mono ?_;rintro e wf ⟨s',rfl,hs',is',bf⟩
        try have nU:InE (fun x=>¬U x) s':=is'.mono (fun x hx e=>by have:=T.low x e;omega)
        have nV:InE (fun x=>¬V x) s':=is'.mono (fun x hx e=>by have:=D.low x e;omega)
        replace T:=T.later bf
        replace D:=D.later bf
        replace Bc:=Z00q Bc bf (Nat.le_refl _)
        have zf:=bf.size)
     | (go_at_call 8;refine(Z1h T hz (by omega) (by omega) (fewO t.o) hwo s' hs' nU).mono ?_;rintro e w3 ⟨A,q3,rfl,hA,U3,T3,s3,e3⟩
        have l3:=T.low
        clear T nU
        have T:=T3
        clear T3
        have hU3:∀ x,U3 x→¬V x:=fun x hx hy=>by
         rcases e3 x hx with c | c
         · exact hUV x c hy
         · have:=D.low x hy;omega
        have hW3:∀ x,U3 x→W.heap.size≤x:=fun x hx=>by
         rcases e3 x hx with c | c
         · exact hW x (.inl c)
         · have:=Bc.size;omega
        replace D:=D.step s3 (fun x hx e=>hUV x e hx)
        replace Bc:=((Stp.of_below Bc (fun x=>W.heap.size≤x)).next s3 (fun x e=> .inl (hW x (.inl e)))).below (Nat.le_refl _) (fun x e=>e)
        replace hUV:∀ x,U3 x→¬V x:=hU3
        replace hW:∀ x,U3 x∨V x→W.heap.size≤x:=fun x hx=>by rcases hx with c | c;exact hW3 x c;exact hW x (.inr c)
        clear hU3 hW3 e3 l3
        have z3:=s3.size
        clear hs' is' nV s3)
     | (go_at_call 10;refine(Zea D hz (by omega) (fewO t.o) hwo s' hs' nV).mono ?_;rintro e w5 ⟨A',rfl,hA',V5,D5,s5,e5⟩))
    have l5:=D.low
    have hz2:=Z7m hz (fewO t.o) hwo.d
    have T6:=T.step s5 (fun x hx e=>hUV x hx e)
    have hUV5:∀ x,U3 x→¬V5 x:=fun x hx hy=>by
     rcases e5 x hy with c | c
     · exact hUV x hx c
     · have:=T.low x hx;omega
    have hW5:∀ x,U3 x∨V5 x→W.heap.size≤x:=fun x hx=>by
     rcases hx with c | c
     · exact hW x (.inl c)
     · rcases e5 x c with d | d
       · exact hW x (.inr d)
       · have:=Bc.size;omega
    have B6:Below W.heap.size W w5:=((Stp.of_below Bc (fun x=>W.heap.size≤x)).next s5 (fun x e=> .inl (hW x (.inr e)))).below (Nat.le_refl _) (fun x e=>e)
    go_wp2_with fail
    go_roundw
    case rel=>exact⟨j+1,Z.do1 (fewO t.o),U3,V5,q3,by go_num,by omega,by omega,hz2,T6,D5,hUV5,hW5,B6⟩
    case measure=>simp [intOf];omega
  · have hjn:((j:Int) < (n:Int)∧¬(j:Int) < 20)∨¬(j:Int) < (n:Int):=by omega
    have a7:(0:Int)≤(j:Int):=by omega
    have hCp:=Z3v T hz (by omega)
    rcases hjn with⟨hj1,hj2⟩ | hj1
    all_goals (
     go_wp2_with (first
      | (go_at_call 11;refine hCp.mono ?_;clear hCp;rintro e w6 ⟨gc,Uc,qc,rfl,b6,Tc,hUc⟩))
     have wzc:=Bc.size
     have hUcW:∀ x,Uc x→W.heap.size≤x:=fun x hx=>by have:=hUc x hx;omega
     have hUcU:∀ x,U x→¬Uc x:=fun x hx hy=>by have:=T.low x hx;have:=hUc x hy;omega
     have T6:=T.later b6
     have D6:=D.later b6
     have B6:=Z00q Bc b6 (Nat.le_refl _)
     clear hj1 T D Bc b6 hUc
     go_loopw [9] (fun iv wr=>∃ (i:Nat) (ZX:Tz) (UX:Nat→Prop) (qX:Int→Nat),iv= .int .i64 (i:Int)∧i≤n2∧i≤20∧ZX.ok (j+i)∧Tx wr UX g qX (j+i) ZX∧Tx wr Uc gc qc j Z∧Dx wr V y Z∧(∀ x,UX x→¬V x∧¬Uc x∧W.heap.size≤x)∧Below W.heap.size W wr) (fun iv _=>20 - (intOf iv).toNat)
     case atStart=>exact⟨0,Z,U,q,rfl,Nat.zero_le _,by omega,hz,T6,Tc,D6,fun x hx=>⟨hUV x hx,hUcU x hx,hW x (.inl hx)⟩,B6⟩
     case round=>
      clear T6 Tc D6 B6 hUcU
      obtain⟨i,ZX,UX,qX,rfl,hi,hi3,hzX,TX,Tc,D,hX,Bc⟩:=hrel
      by_cases hlt2:i < n2∧i < 20
      · obtain⟨b,o,rfl,hbl,hcs⟩:=hcl2H.out (by omega)
        obtain⟨t,ht⟩:∃ t,L2[i]? =some t:=⟨_,List.getElem?_eq_getElem (by omega)⟩
        have htm:t ∈ L2:=List.mem_of_getElem? ht
        have hr:=hcs i t ht
        clear hcs
        have hR:∀ u,Below W.heap.size W u→u.rangeAt b (o+i * 8) t.cs:=fun u hu=>(Stp.of_below hu (fun _=>False)).range hr id
        have hD:∀ u,Below W.heap.size W u→BsS u t.d t.o.d:=fun u hu=>(hP2.ms t htm).1.later hu
        obtain⟨hwn,hsz⟩:=hP2.wf t htm
        have hwo:=Z7s hwn (hP2.ms t htm).1.byte
        have a9:(i:Int) < (n2:Int):=by omega
        have a8:(i:Int) < 20:=by omega
        have a7':(0:Int)≤(i:Int):=by omega
        have wz:=Bc.size
        go_wp2_with (first
         | (refine Z91 (by rfl) _ (by rfl) b (o+i * 8) (by rfl) t (hR _ Bc) ?_)
         | (go_at_call 9;refine(Z96 (hD _ Bc) hsz).mono ?_;rintro e wf ⟨s',rfl,hs',is',bf⟩
            have nU:InE (fun x=>¬UX x) s':=is'.mono (fun x hx e=>by have:=TX.low x e;omega)
            replace TX:=TX.later bf
            replace Tc:=Tc.later bf
            replace D:=D.later bf
            replace Bc:=Z00q Bc bf (Nat.le_refl _))
         | (go_at_call 8;refine(Z1h TX hzX (by omega) (by omega) (fewO t.o) hwo s' hs' nU).mono ?_;rintro e w3 ⟨A,q3,rfl,hA,U3,T3,s3,e3⟩))
        have hz3:=Z7m hzX (fewO t.o) hwo.d
        have Tc3:=Tc.step s3 (fun x hx e=>(hX x e).2.1 hx)
        have D3:=D.step s3 (fun x hx e=>(hX x e).1 hx)
        have hX3:∀ x,U3 x→¬V x∧¬Uc x∧W.heap.size≤x:=fun x hx=>by
         rcases e3 x hx with d | d
         · exact hX x d
         · exact⟨fun e=>by have:=D.low x e;omega,fun e=>by have:=Tc.low x e;omega,by have:=Bc.size;omega⟩
        have B3:Below W.heap.size W w3:=((Stp.of_below Bc (fun x=>W.heap.size≤x)).next s3 (fun x e=> .inl (hX x e).2.2)).below (Nat.le_refl _) (fun x e=>e)
        clear hX hR hD TX Tc D Bc e3 s3 nU hs' is'
        go_wp2_with fail
        go_roundw
        case rel=>exact⟨i+1,ZX.do1 (fewO t.o),U3,q3,by go_num,by omega,by omega,hz3,T3,Tc3,D3,hX3,B3⟩
        case measure=>simp [intOf];omega
      · have hjn2:((i:Int) < (n2:Int)∧¬(i:Int) < 20)∨¬(i:Int) < (n2:Int):=by omega
        have a7':(0:Int)≤(i:Int):=by omega
        rcases hjn2 with⟨hk1,hk2⟩ | hk1
        all_goals (
         clear hX TX
         have hlen:(Z.N.length:Int)≤1000:=by have:=hz.few;omega
         have hkp:∀ k:Nat,k≤1000→wfi (k:Int):=fun k hk=>Z22 (by omega)
         have hkpH:Hid _:=hkp
         clear hkp
         obtain⟨fb,r,c',A',F',sd,sn,H,hUU⟩:=D
         have D:Dx wr V y Z:=⟨fb,r,c',A',F',sd,sn,H,hUU⟩
         go_wp2_with fail
         go_loopw [10] (fun iv wq=>∃ k:Nat,iv= .int .i64 (k:Int)∧k≤Z.N.length+1∧Below wr.heap.size wr wq) (fun iv _=>Z.N.length+1 - (intOf iv).toNat)
         case atStart=>exact⟨0,rfl,Nat.zero_le _,Below.refl _ _⟩
         case round=>
          obtain⟨k,rfl,hk,bk⟩:=hrel
          have y0:=(H.later bk).c0
          by_cases hlt3:k < Z.N.length+1
          · have d9:(k:Int) < (Z.N.length:Int)+1:=by omega
            have d8:(0:Int)≤(k:Int):=by omega
            have hN:=Zay (Tc.later bk) (D.later bk) hz (by omega) (by omega) (hkpH.out k (by omega))
            have hltH:Hid (k < Z.N.length+1):=hlt3
            go_wp2_with (first
             | (go_at_call 12;refine hN.mono ?_;clear hN;rintro e w10 ⟨rfl,b10⟩))
            go_roundw
            case rel=>exact⟨k+1,by go_num,hltH.out,Z00q bk b10 (Nat.le_refl _)⟩
            case measure=>have:=hltH.out;simp [intOf];omega
          · have d9:¬(k:Int) < (Z.N.length:Int)+1:=by omega
            have hs0:spE [47]=0:=rfl
            have bb:=bk
            go_wp2_with (first
             | (go_at_call 13;refine(Zd6 [47] _).mono ?_;rintro e u ⟨rfl,rfl⟩)
             | (go_at_call 14;refine(Zb0 _ 1).mono ?_;rintro e w11 ⟨rfl,b11⟩
                replace bb:=Z00q bb b11 (Nat.le_refl _)
                have z11:=bb.size)
             | (refine Z1i 48 4 _ Z1d (by rfl) (by rfl) ?_;intro gn w12 z12 y12 r12 b12
                replace bb:=Z00q bb b12 (Nat.le_refl _))
             | (refine Z1e 48 4 _ Z1d (by rfl) _ _ (by rfl) gn (by rfl) (tnC Nd.zero Sv.nil (.slice none 0 0)) (by rfl) rfl (Z27 _ _ rfl) _ r12 rfl ?_;intro w13 r13 s13
                replace bb:=((Stp.of_below bb (fun _=>False)).next s13 (fun x e=> .inr (by omega))).below (Nat.le_refl _) (fun x e=>e.elim))
             | (go_at_call 8;refine(Zey _ ⟨15, [], [],0,0,0,0, []⟩ Sv.nil).mono ?_;rintro e w14 ⟨A,rfl,hA,b14⟩
                replace bb:=Z00q bb b14 (Nat.le_refl _)
                have z14:=bb.size)
             | (refine Z02 (by rfl) (by rfl) ?_;intro ga w15 z15 y15 r15 b15
                replace bb:=Z00q bb b15 (Nat.le_refl _))
             | (refine Z03 (by rfl) _ _ (by rfl) ga (by rfl) A 1 hA (by rfl) _ r15 rfl ?_;intro w16 r16 s16
                replace bb:=((Stp.of_below bb (fun _=>False)).next s16 (fun x e=> .inr (by omega))).below (Nat.le_refl _) (fun x e=>e.elim))
             | (go_at_call 15;refine(Z1p [47] _ (by decide)).mono ?_;rintro e w17 ⟨⟨a5,n5,c5,rfl,s5⟩,b17⟩
                replace bb:=Z00q bb b17 (Nat.le_refl _)
                have r17:=r16.later b17))
            have c1:=r17.cell 0 _ hA.at0
            have Bz:=bb
            refine wp_region_held_drew (S:=fun u=>Below w17.heap.size w17 u) (by kernel_rfl) (Below.refl _ _).drew (fun hHeld=>?_)
            refine tl 0 (.pointer (some ⟨gc,0,none⟩)) rfl ?_
            try simp only [z]
            refine tl 3 (.pointer (some ⟨y,0,none⟩)) rfl ?_
            try simp only [z]
            refine tl 4 (.pointer (some ⟨y,0,none⟩)) rfl ?_
            try simp only [z]
            refine tl 5 (.pointer (some ⟨y,1,none⟩)) rfl ?_
            try simp only [z]
            refine tl 6 (.pointer (some ⟨fb,0,none⟩)) rfl ?_ (fun u hu=>by have x1:=(H.later (Z00q bb hu (Nat.le_refl _))).c1;go_simp)
            try simp only [z]
            refine rd 1 rfl (fun K hK=>?_)
            go_simp
            refine(Z2k (Tc.later (Z00q bb hHeld (Nat.le_refl _)))).mono ?_
            rintro e wO ⟨gO,UO,rfl,fO,bO⟩
            try go_wp2_with fail
            refine hK.out _ _ (Z00q hHeld bO (Nat.le_refl _)) (fun hHeld=>?_)
            clear hK K
            try simp only [z]
            refine rd 2 rfl (fun K hK=>?_)
            go_simp
            refine(Zew fO).mono ?_
            rintro e wU ⟨sU,rfl,iU,bU⟩
            try go_wp2_with fail
            refine hK.out _ _ (Z00q hHeld bU (Nat.le_refl _)) (fun hHeld=>?_)
            clear hK K
            try simp only [z]
            refine rd 7 rfl (fun K hK=>?_)
            go_simp
            refine(Zfv (H.later (Z00q bb hHeld (Nat.le_refl _))).fd).mono ?_
            rintro e wR ⟨sR,rfl,iR,bR⟩
            try go_wp2_with fail
            have iU:=iU.later bR
            refine hK.out _ _ (Z00q hHeld bR (Nat.le_refl _)) (fun hHeld=>?_)
            clear hK K
            try simp only [z]
            refine rd 8 rfl (fun K hK=>?_)
            go_simp
            refine(Zcv iU iR (by have:=Z2x Z.t 8;omega)).mono ?_
            rintro e wS ⟨rfl,bS⟩
            try go_wp2_with fail
            refine hK.out _ _ (Z00q hHeld bS (Nat.le_refl _)) (fun hHeld=>?_)
            clear hK K
            try simp only [z]
            refine tl 9 (.bool true) rfl ?_
            try simp only [z]
            refine tl 10 (.int .i64 1) rfl ?_
            try simp only [z]
            refine tl 11 (.bool true) rfl ?_
            try simp only [z]
            refine tl 12 (.bool true) rfl ?_
            try simp only [z]
            refine tl 13 (.bool true) rfl ?_
            try simp only [z]
            refine tl 14 (.int .i64 1) rfl ?_
            try simp only [z]
            refine tl 15 (.int .i64 1) rfl ?_
            try simp only [z]
            refine tl 16 (.bool true) rfl ?_
            try simp only [z]
            refine tl 17 (.bool true) rfl ?_
            try simp only [z]
            refine tl 18 (.bool true) rfl ?_
            try simp only [z]
            refine tl 19 (.pointer (some ⟨ga,0,none⟩)) rfl ?_
            try simp only [z]
            refine tl 20 (.int .i64 1) rfl ?_ (fun u hu=>by have x1:=(Stp.of_below hu (fun _=>False)).cell c1 id;go_simp)
            try simp only [z]
            refine tl 21 (.int .i64 1) rfl ?_
            try simp only [z]
            refine tl 22 (.bool true) rfl ?_
            try simp only [z]
            refine tl 23 (.bool true) rfl ?_
            try simp only [z]
            refine tl 24 (.bool true) rfl ?_
            try simp only [z]
            refine tl 25 (.pointer none) rfl ?_
            try simp only [z]
            refine rd 26 rfl (fun K hK=>?_)
            go_simp
            refine(Za0 _).mono ?_
            rintro e uP ⟨rfl,rfl⟩
            try go_wp2_with fail
            refine hK.out _ _ (hHeld) (fun hHeld=>?_)
            clear hK K
            try simp only [z]
            refine tl 27 (.int .i64 0) rfl ?_
            try simp only [z]
            refine tl 28 (.bool true) rfl ?_
            try simp only [z]
            refine tl 29 (.bool true) rfl ?_
            try simp only [z]
            refine tl 30 (.bool true) rfl ?_
            try simp only [z]
            refine tl 31 (.pointer none) rfl ?_
            try simp only [z]
            refine rd 32 rfl (fun K hK=>?_)
            go_simp
            refine(Zal _).mono ?_
            rintro e uC ⟨rfl,rfl⟩
            try go_wp2_with fail
            refine hK.out _ _ (hHeld) (fun hHeld=>?_)
            clear hK K
            try simp only [z]
            refine tl 33 (.bool true) rfl ?_
            try simp only [z]
            refine tl 34 (.bool true) rfl ?_
            try simp only [z]
            refine tl 35 (.bool true) rfl ?_
            try simp only [z]
            refine tl 36 (.pointer none) rfl ?_
            try simp only [z]
            refine tl 38 (.pointer none) rfl ?_
            try simp only [z]
            refine rd 37 rfl (fun K hK=>?_)
            go_simp
            refine(Zb1 _).mono ?_
            rintro e uO ⟨rfl,rfl⟩
            try go_wp2_with fail
            refine hK.out _ _ (hHeld) (fun hHeld=>?_)
            clear hK K
            try simp only [z]
            refine tl 39 (.bool true) rfl ?_
            try simp only [z]
            refine tl 40 (.bool true) rfl ?_
            try simp only [z]
            refine tl 41 (.bool true) rfl ?_
            try simp only [z]
            refine tl 42 (.int .i64 0) rfl ?_
            try simp only [z]
            refine tl 43 (.bool true) rfl ?_
            try simp only [z]
            refine tl 44 (.bool true) rfl ?_
            try simp only [z]
            refine tl 45 (.bool true) rfl ?_
            try simp only [z]
            refine wpAnyH_done (by kernel_rfl) ?_ _
            go_wp2_with fail
            go_returns
            exact⟨rfl,Z00q Bc (Z00q Bz hHeld (Nat.le_refl _)) (Nat.le_refl _)⟩))
theorem own:ownKnob Tryz.prog.godebug=none:=by kernel_rfl
theorem laidOut:laidOutB Tryz.prog=true:=by kernel_rfl
set_option maxRecDepth 100000 in
theorem lifted (os:Os) (started:os.Started) (H:Type) (enc:TypeId×Value→H):
 ReturnsInHanded {} Tryz.checked os 3 .any (Rows.treeOwnSpec.pre6 enc Tryz.prog Tryz.f3 Rows.treeOwnRow.domain false) (Rows.treeOwnSpec.post enc Tryz.prog Tryz.f3 false true false false):=by
 refine returnsInHanded_of_change_sized (C:=Tryz.checked) own started (by kernel_rfl) Tryz.func3
  (ChangeSpec.witness6 (enc:=enc) (C:=Tryz.checked) false ⟨#[],#[.slice none 0 0, .slice none 0 0], []⟩ 8 (by kernel_rfl) (by kernel_rfl) (by kernel_rfl) (by kernel_rfl)) ?_
 intro W base args ds gs before hval0 hW hcnd hsz _
 have hval:∀ (j:Nat) t v,Tryz.f3.params[j]? =some t→args[j]? =some v→Value.okWide Tryz.prog W .any base t v:=hval0
 have hW':=hW
 obtain⟨p,q,hA0,hV,rfl,hfz,hnd⟩:=hW
 have hA:DataW.TrodAll enc Tryz.prog W 0 (fun _=>true) true Tryz.f3.params.toList args.toList ds p:=hA0
 rw [Tryz.params3]at hA hval
 obtain⟨v0,vs0,d0,ds0,p0,q0,hargs,rfl,rfl,h0,r0⟩:=trodAll_cons hA
 obtain⟨v1,vs1,d1,ds1,p1,q1,rfl,rfl,rfl,h1,r1⟩:=trodAll_cons r0
 obtain⟨rfl,rfl,rfl⟩:=trodAll_nil r1
 obtain rfl:args=#[v0,v1]:=by cases args;simp_all
 obtain⟨rfl,rfl⟩:=trodVars_none hV
 obtain⟨a0,len0,cap0,rfl⟩:=okWide_slice Tryz.underlying22 (hval 0 22 v0 rfl rfl)
 have k0:=h0
 have lt0:∀ x ∈ p0,x.block < W.heap.size:=by obtain⟨m,hm⟩:=k0;exact DataW.trod_lt m _ _ _ hm
 have hz0:∀ k ∈ d0.weights Tryz.prog 22,k≤reachBytes:=fun k hk=>by
  have:=List.all_eq_true.1 hsz k (DataW.weights_mem_each (j:=0) (t:=22) (d:=d0) (by rfl) (by rfl) k hk)
  simpa using this
 obtain ⟨z0,w0⟩:∃ zs,Po W (fun x=>x < W.heap.size) ⟨a0,len0,cap0⟩ zs:=by
  obtain⟨fuel,hf⟩:=h0
  obtain⟨a,n,c,l,hcs,hi⟩:=Z9e hf hz0
  simp [Value.cells]at hcs
  obtain⟨rfl,rfl,rfl⟩:=hcs
  exact⟨_,hi⟩
 obtain⟨a1,len1,cap1,rfl⟩:=okWide_slice Tryz.underlying22 (hval 1 22 v1 rfl rfl)
 have k1:=h1
 have lt1:∀ x ∈ p1,x.block < W.heap.size:=by obtain⟨m,hm⟩:=k1;exact DataW.trod_lt m _ _ _ hm
 have hz1:∀ k ∈ d1.weights Tryz.prog 22,k≤reachBytes:=fun k hk=>by
  have:=List.all_eq_true.1 hsz k (DataW.weights_mem_each (j:=1) (t:=22) (d:=d1) (by rfl) (by rfl) k hk)
  simpa using this
 obtain ⟨z1,w1⟩:∃ zs,Po W (fun x=>x < W.heap.size) ⟨a1,len1,cap1⟩ zs:=by
  obtain⟨fuel,hf⟩:=h1
  obtain⟨a,n,c,l,hcs,hi⟩:=Z9e hf hz1
  simp [Value.cells]at hcs
  obtain⟨rfl,rfl,rfl⟩:=hcs
  exact⟨_,hi⟩
 clear hA0 hval0
 refine(walk a0 len0 cap0 z0 a1 len1 cap1 z1 W w0 w1).mono fun e W' ⟨he,bel⟩=>?_
 subst he
 exact⟨_,rfl,_,_,_, [],_, [],hW',trodAll_mk1 (shut_bool Tryz.underlying4 _),(trodAll_cons_mk (Below.trod laidOut (by kernel_rfl) (of_decide_eq_true (by kernel_rfl)) k0 bel lt0) (trodAll_cons_mk (Below.trod laidOut (by kernel_rfl) (of_decide_eq_true (by kernel_rfl)) k1 bel lt1) trodAll_mk0)),rfl,bel.frame _,fun h=>by cases h⟩
theorem over:Rows.treeOwnRow.holds Tryz.pinned (OpenSpec.ofChange Rows.treeOwnSpec):=
 OpenClaim.holds_of_wide 3 Tryz.f3 rfl rfl rfl rfl rfl rfl rfl ⟨rfl,rfl,rfl,rfl,rfl⟩ rfl rfl rfl rfl rfl (by kernel_rfl) Tryz.func3 (by kernel_rfl)
  (of_decide_eq_true (by kernel_rfl)) (by unfold Func.isWrapper;first | (rw [if_pos (by decide+kernel)];kernel_rfl) | (rw [if_neg (by decide+kernel)];exact⟨rfl,rfl⟩))
  (fun os started H enc _=>lifted os started H enc)
end Go.Proofs.YtdnjddpfcgginaaGreat.treeOwn
namespace Go.Proofs.YtdnjddpfcgginaaGreat
/-- The statement. -/
theorem treeOwn_holds:Rows.TreeOwnSaid:=treeOwn.over
#print axioms treeOwn_holds
end Go.Proofs.YtdnjddpfcgginaaGreat
