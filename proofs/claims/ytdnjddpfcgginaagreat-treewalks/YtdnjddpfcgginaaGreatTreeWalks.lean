/-
  The statement TreeWalks of layer 25 (tree): whatever is asked of a tree, a text's node is the one that the document tells, or refused as it says; and where there is one, the listing of the directory ahead of it leads to it. Conditions: those of the statement as it was given, none besides.
-/
import Derived.Test.YtdnjddpfcgginaaGreatJbc
import Derived.Test.YtdnjddpfcgginaaGreatJbm
set_option linter.unusedSimpArgs false
set_option linter.unusedVariables false
namespace Go.Proofs.YtdnjddpfcgginaaGreat
open Go.ChangeShapes Go.WideShapes Go.ChangeAt Go.RowKit
set_option linter.unusedVariables false
set_option linter.unusedSimpArgs false
set_option maxRecDepth 100000
end Go.Proofs.YtdnjddpfcgginaaGreat
namespace Go.Proofs.YtdnjddpfcgginaaGreat.treeWalks
open Go.ChangeShapes Go.WideShapes Go.ChangeAt Go.RowKit
set_option maxRecDepth 100000
set_option linter.unusedVariables false
set_option linter.unusedSimpArgs false
set_option maxHeartbeats 8000000 in
theorem walk (a:Option Addr) (n c:Nat) (L:List Ox) (p:List UInt8) (W:World) (hP:Po W (fun x=>x < W.heap.size) ⟨a,n,c⟩ L):
 Calls Tryz.prog 4 #[.slice a n c, .string (str p)] W fun e w'=>e= .returned (.bool true)∧Below W.heap.size W w':=by
 have hl:=hP.len
 simp only at hl
 have hcap:n≤maxLen:=Nat.le_trans hP.le hP.cap
 unfold maxLen at hcap
 have hcl:=hP.cell
 simp only at hcl
 obtain⟨p2,hp2⟩:∃ p2,p2=p.take 200:=⟨_,rfl⟩
 have hp2l:p2.length≤5000:=by rw [hp2];simp;omega
 obtain⟨m1,hm1⟩:∃ m,m=min p.length 200:=⟨_,rfl⟩
 have z1:=Z1d p
 have e1:min (p.length:Int) 200=(m1:Int):=by omega
 have e1':(if (200:Int) < (p.length:Int)then(200:Int)else(p.length:Int))=(m1:Int):=by split<;>omega
 have b1:(m1:Int)≤(p.length:Int):=by omega
 have b10:(0:Int)≤(m1:Int):=by omega
 have x1:=Z6u p m1
 rw [hm1,Z59,← hm1,← hp2]at x1
 clear hm1 hp2
 go_enter Tryz.func4,Tryz.ntmps4
 go_wp2_with (first
  | (go_at_call 6;refine(Z8i _).mono ?_;rintro e w1 ⟨g,U0,q0,rfl,c1,T1,hU1⟩)
  | (go_at_call 7;refine(Zcc _).mono ?_;rintro e w2 ⟨y,V0,rfl,c2,D2,hV2⟩))
 have T2:=T1.later c2
 have B2:=Z00q c1 c2 (Nat.le_refl _)
 go_loopw [7] (fun iv wr=>∃ (j:Nat) (Z:Tz) (U V:Nat→Prop) (q:Int→Nat),iv= .int .i64 (j:Int)∧j≤n∧j≤30∧Z.ok j∧Tx wr U g q j Z∧Dx wr V y Z∧(∀ x,U x→¬V x)∧(∀ x,U x∨V x→W.heap.size≤x)∧Below W.heap.size W wr) (fun iv _=>30 - (intOf iv).toNat)
 case atStart=>exact⟨0,Tz.new,U0,V0,q0,rfl,Nat.zero_le _,by omega,Z3w,T2,D2,fun x hx hy=>by have:=T1.low x hx;have:=hV2 x hy;omega,fun x hx=>by have:=c1.size;rcases hx with e | e;exact hU1 x e;have:=hV2 x e;omega,B2⟩
 case round=>
  obtain⟨j,Z,U,V,q,rfl,hj,hj3,hz,T,D,hUV,hW,Bc⟩:=hrel
  by_cases hlt:j < n∧j < 30
  · obtain⟨b,o,rfl,hbl,hcs⟩:=hcl (by omega)
    obtain⟨t,ht⟩:∃ t,L[j]? =some t:=⟨_,List.getElem?_eq_getElem (by omega)⟩
    have htm:t ∈ L:=List.mem_of_getElem? ht
    have hr:=hcs j t ht
    have hR:∀ u,Below W.heap.size W u→u.rangeAt b (o+j * 8) t.cs:=fun u hu=>(Stp.of_below hu (fun _=>False)).range hr id
    have hD:∀ u,Below W.heap.size W u→BsS u t.d t.o.d:=fun u hu=>(hP.ms t htm).1.later hu
    obtain⟨hwn,hsz⟩:=hP.wf t htm
    have hwo:=Zbw hwn (hP.ms t htm).1.byte
    have a9:(j:Int) < (n:Int):=by omega
    have a8:(j:Int) < 30:=by omega
    have a7:(0:Int)≤(j:Int):=by omega
    have wz:=Bc.size
    clear hcs z1 e1 e1' b1 b10 x1
    go_wp2_with (first
     | (refine Zd1 (by rfl) _ (by rfl) b (o+j * 8) (by rfl) t (hR _ Bc) ?_)
     | (go_at_call 9;refine(Zdh (hD _ Bc) hsz).mono ?_;rintro e wf ⟨s',rfl,hs',is',bf⟩
        try have nU:InE (fun x=>¬U x) s':=is'.mono (fun x hx e=>by have:=T.low x e;omega)
        have nV:InE (fun x=>¬V x) s':=is'.mono (fun x hx e=>by have:=D.low x e;omega)
        replace T:=T.later bf
        replace D:=D.later bf
        replace Bc:=Z00q Bc bf (Nat.le_refl _)
        have zf:=bf.size)
     | (go_at_call 8;refine(Z1k T hz (by omega) (by omega) (fewO t.o) hwo s' hs' nU).mono ?_;rintro e w3 ⟨A,q3,rfl,hA,U3,T3,s3,e3⟩
        have l3:=T.low
        clear T nU
        have T:=T3
        clear T3
        have hU3:∀ x,U3 x→¬V x:=fun x hx hy=>by
         rcases e3 x hx with c | c
         · exact hUV x c hy
         · have:=D.low x hy;omega
        have hW3:∀ x,U3 x→W.heap.size≤x:=fun x hx=>by
         rcases e3 x hx with c | c
         · exact hW x (.inl c)
         · have:=Bc.size;omega
        replace D:=D.step s3 (fun x hx e=>hUV x e hx)
        replace Bc:=((Stp.of_below Bc (fun x=>W.heap.size≤x)).next s3 (fun x e=> .inl (hW x (.inl e)))).below (Nat.le_refl _) (fun x e=>e)
        replace hUV:∀ x,U3 x→¬V x:=hU3
        replace hW:∀ x,U3 x∨V x→W.heap.size≤x:=fun x hx=>by rcases hx with c | c;exact hW3 x c;exact hW x (.inr c)
        clear hU3 hW3 e3 l3
        have z3:=s3.size
        clear hs' is' nV s3)
     | (go_at_call 10;refine(Zdt D hz (by omega) (fewO t.o) hwo s' hs' nV).mono ?_;rintro e w5 ⟨A',rfl,hA',V5,D5,s5,e5⟩))
    have l5:=D.low
    have hz2:=Zai hz (fewO t.o) hwo.d
    have T6:=T.step s5 (fun x hx e=>hUV x hx e)
    have hUV5:∀ x,U3 x→¬V5 x:=fun x hx hy=>by
     rcases e5 x hy with c | c
     · exact hUV x hx c
     · have:=T.low x hx;omega
    have hW5:∀ x,U3 x∨V5 x→W.heap.size≤x:=fun x hx=>by
     rcases hx with c | c
     · exact hW x (.inl c)
     · rcases e5 x c with d | d
       · exact hW x (.inr d)
       · have:=Bc.size;omega
    have B6:Below W.heap.size W w5:=((Stp.of_below Bc (fun x=>W.heap.size≤x)).next s5 (fun x e=> .inl (hW x (.inr e)))).below (Nat.le_refl _) (fun x e=>e)
    go_wp2_with fail
    go_roundw
    case rel=>exact⟨j+1,Z.do1 (fewO t.o),U3,V5,q3,by go_num,by omega,by omega,hz2,T6,D5,hUV5,hW5,B6⟩
    case measure=>simp [intOf];omega
  · have hjn:((j:Int) < (n:Int)∧¬(j:Int) < 30)∨¬(j:Int) < (n:Int):=by omega
    have bb:Below wr.heap.size wr wr:=Below.refl _ _
    have HW:=fun u (b:Below wr.heap.size wr u)=>Z22 (T.later b) hz (by omega) p2 hp2l
    have HR:=fun u (b:Below wr.heap.size wr u)=>Z75 (D.later b) hz p2 hp2l
    have HN:=fun u (b:Below wr.heap.size wr u)=>Zat (T.later b) (D.later b) hz (by omega) (by omega) (Zh9 hz (by omega) p2)
    have a7:(0:Int)≤(j:Int):=by omega
    clear hcl hP
    by_cases he:(Z.wa p2).2=0
    · by_cases hg:lsE p2=0
      · obtain⟨w1',w2',w3',w4',w5'⟩:=Zfg he hg
        have HW2:=fun u (b:Below wr.heap.size wr u)=>Z22 (T.later b) hz (by omega) (jS (lsN p2)) (by have:=Zal (lsN p2);omega)
        rw [w2']at HW2
        have hdk:(Z.nd (Z.paD p2)).k≠0:=by rw [w3'];decide
        have HD:=fun u (b:Below wr.heap.size wr u)=>Z3v (T.later b) hz (by omega) (by omega) (Z12 hz (by omega) hdk)
        have hL16:(lsN p2).length≤1000:=by have:=Z3e p2;unfold lsN;simp;omega
        rw [he]at HW HR
        obtain⟨A1,hA1⟩:∃ v,Hid ((Z.wa p2).1=v):=⟨_,rfl⟩
        simp only [hA1.out]at HW HR HN w4' w5'
        obtain⟨x,hx⟩:∃ x,Hid (Z.nd (Z.paD p2)=x):=⟨_,rfl⟩
        simp only [hx.out]at HD w4'
        have hxk:x.k=2:=by rw [← hx.out];exact w3'
        have hnl:x.nm.length≤900:=by have:=hz.nl (Z.paD p2);rw [hx.out]at this;omega
        have hq0:Hid (lk (x.nm.drop 0) (lsS p2)=A1):=by show _=_;rw [List.drop_zero];exact w4'
        have hA0:Hid (A1≠0):=w5'
        have hnlH:Hid (x.nm.length≤900):=hnl
        clear w1' w2' w3' w4' w5' hnl
        rcases hjn with⟨hj1,hj2⟩ | hj1
        all_goals (
         go_wp2_with (first
          | (go_at_call 13;refine(HW _ bb).mono ?_;clear HW;rintro e w8 ⟨rfl,b8⟩
             replace bb:=Z00q bb b8 (Nat.le_refl _))
          | (go_at_call 21;refine(HR _ bb).mono ?_;clear HR;rintro e w9 ⟨rfl,b9⟩
             replace bb:=Z00q bb b9 (Nat.le_refl _))
          | (go_at_call 12;refine(HN _ bb).mono ?_;clear HN;rintro e w10 ⟨rfl,b10⟩
             replace bb:=Z00q bb b10 (Nat.le_refl _))
          | (go_at_call 22;refine(Z45 p2 _ hp2l).mono ?_;rintro e w11 ⟨⟨a3,n3,c3,rfl,s3⟩,b11⟩
             replace bb:=Z00q bb b11 (Nat.le_refl _))
          | (go_at_call 23;refine(Zam s3 hL16).mono ?_;rintro e w13 ⟨rfl,b13⟩
             replace bb:=Z00q bb b13 (Nat.le_refl _))
          | (go_at_call 13;refine(HW2 _ bb).mono ?_;clear HW2;rintro e w14 ⟨rfl,b14⟩
             replace bb:=Z00q bb b14 (Nat.le_refl _))
          | (go_at_call 14;refine(HD _ bb).mono ?_;clear HD;rintro e w15 ⟨sb,t,rfl,hsb,ht,b15⟩
             replace bb:=Z00q bb b15 (Nat.le_refl _)
             have zb:=bb.size)
          | (refine Z1o 48 4 _ Z1j (by rfl) (by rfl) ?_;intro gn w16 z16 y16 r16 b16
             replace bb:=Z00q bb b16 (Nat.le_refl _)
             have ht6:=ht.later b16)
          | (refine Z1g 48 4 _ Z1j (by rfl) _ _ (by rfl) gn (by rfl) (tnC x sb t.v) (by rfl) rfl (Z2e _ _ rfl) _ r16 rfl ?_;intro w17 r17 s17
             have b17:Below w15.heap.size w15 w17:=((Stp.of_below b16 (fun _=>False)).next s17 (fun x e=> .inr (by omega))).below (Nat.le_refl _) (fun x e=>e.elim)
             replace bb:Below wr.heap.size wr w17:=((Stp.of_below bb (fun _=>False)).next s17 (fun x e=> .inr (by omega))).below (Nat.le_refl _) (fun x e=>e.elim)))
         have ht7:=ht.later b17
         go_loopw [21] (fun iv wq=>∃ i:Nat,iv= .int .i64 (i:Int)∧i≤x.nm.length∧w17=wq∧Hid (lk (x.nm.drop i) (lsS p2)=A1)) (fun iv _=>x.nm.length - (intOf iv).toNat)
         case atStart=>exact⟨0,rfl,Nat.zero_le _,rfl,hq0⟩
         case round=>
          obtain⟨i,rfl,hi,rfl,hQ⟩:=hrel
          have tl9:=ht7.len
          have k3:_=some (Value.slice t.a t.n t.c):=r17.cell 3 _ rfl
          by_cases hlt:i < x.nm.length
          · obtain⟨bt,et,ct⟩:=ht7.cell (by omega)
            obtain⟨d1,d2⟩:=ct i (by omega)
            have hQ2:=hQ.out
            rw [Z99 hlt]at hQ2
            have hQ3:Hid _:=hQ2
            clear hQ2 hQ ct
            have a9:(i:Int) < (t.n:Int):=by omega
            have a8:(0:Int)≤(i:Int):=by omega
            have a5:(i:Int)≤900:=by have:=hnlH.out;omega
            have hlH:Hid (i < x.nm.length):=hlt
            generalize x.nm.getD i Ent.zero=en at d1 d2 hQ3
            have tX:=Z15 en.s
            have tY:=Z15 (lsS p2)
            by_cases hes:en.s=lsS p2
            · have hQ4:en.n=A1:=by have:=hQ3.out;rw [if_pos hes]at this;exact this
              rw [hes]at d2
              rw [hQ4]at d1
              clear hQ3 tX hes hQ4
              go_wp2_with (first
               | (go_at_call 5;refine(Z5a _).mono ?_;rintro e w18 ⟨rfl,b18⟩
                  replace bb:=Z00q bb b18 (Nat.le_refl _)))
              go_returns
              exact⟨rfl,Z00q Bc bb (Nat.le_refl _)⟩
            · have hQ4:Hid (lk (x.nm.drop (i+1)) (lsS p2)=A1):=by have:=hQ3.out;rw [if_neg hes]at this;exact this
              have hxb:(en.s==lsS p2)=false:=by simpa using hes
              clear hQ3 hes
              go_wp2
              go_roundw
              case rel=>exact⟨i+1,by go_num,hlH.out,trivial,hQ4⟩
              case measure=>have:=hlH.out;simp [intOf];omega
          · exfalso
            have:=hQ.out
            rw [List.drop_eq_nil_of_le (by omega)]at this
            exact hA0.out this.symm)
      · have qg:(lsE p2 != 0)=true:=by simpa using hg
        rw [he]at HW HR
        rcases hjn with⟨hj1,hj2⟩ | hj1
        all_goals (
         clear hg
         go_wp2_with (first
          | (go_at_call 13;refine(HW _ bb).mono ?_;clear HW;rintro e w8 ⟨rfl,b8⟩
             replace bb:=Z00q bb b8 (Nat.le_refl _))
          | (go_at_call 21;refine(HR _ bb).mono ?_;clear HR;rintro e w9 ⟨rfl,b9⟩
             replace bb:=Z00q bb b9 (Nat.le_refl _))
          | (go_at_call 12;refine(HN _ bb).mono ?_;clear HN;rintro e w10 ⟨rfl,b10⟩
             replace bb:=Z00q bb b10 (Nat.le_refl _))
          | (go_at_call 22;refine(Z45 p2 _ hp2l).mono ?_;rintro e w11 ⟨⟨a3,n3,c3,rfl,s3⟩,b11⟩
             replace bb:=Z00q bb b11 (Nat.le_refl _))
          | (go_at_call 5;refine(Z5a _).mono ?_;rintro e w12 ⟨rfl,b12⟩
             replace bb:=Z00q bb b12 (Nat.le_refl _)))
         go_returns
         exact⟨rfl,Z00q Bc bb (Nat.le_refl _)⟩)
    · have qe:((Z.wa p2).2 != 0)=true:=by simpa using he
      rcases hjn with⟨hj1,hj2⟩ | hj1
      all_goals (
       clear he
       go_wp2_with (first
        | (go_at_call 13;refine(HW _ bb).mono ?_;clear HW;rintro e w8 ⟨rfl,b8⟩
           replace bb:=Z00q bb b8 (Nat.le_refl _))
        | (go_at_call 21;refine(HR _ bb).mono ?_;clear HR;rintro e w9 ⟨rfl,b9⟩
           replace bb:=Z00q bb b9 (Nat.le_refl _))
        | (go_at_call 12;refine(HN _ bb).mono ?_;clear HN;rintro e w10 ⟨rfl,b10⟩
           replace bb:=Z00q bb b10 (Nat.le_refl _))
        | (go_at_call 22;refine(Z45 p2 _ hp2l).mono ?_;rintro e w11 ⟨⟨a3,n3,c3,rfl,s3⟩,b11⟩
           replace bb:=Z00q bb b11 (Nat.le_refl _))
        | (go_at_call 5;refine(Z5a _).mono ?_;rintro e w12 ⟨rfl,b12⟩
           replace bb:=Z00q bb b12 (Nat.le_refl _)))
       go_returns
       exact⟨rfl,Z00q Bc bb (Nat.le_refl _)⟩)
theorem own:ownKnob Tryz.prog.godebug=none:=by kernel_rfl
theorem laidOut:laidOutB Tryz.prog=true:=by kernel_rfl
set_option maxRecDepth 100000 in
theorem lifted (os:Os) (started:os.Started) (H:Type) (enc:TypeId×Value→H):
 ReturnsInHanded {} Tryz.checked os 4 .any (Rows.treeWalksSpec.pre6 enc Tryz.prog Tryz.f4 Rows.treeWalksRow.domain false) (Rows.treeWalksSpec.post enc Tryz.prog Tryz.f4 false true false false):=by
 refine returnsInHanded_of_change_sized (C:=Tryz.checked) own started (by kernel_rfl) Tryz.func4
  (ChangeSpec.witness6 (enc:=enc) (C:=Tryz.checked) false ⟨#[],#[.slice none 0 0, .string ByteArray.empty], []⟩ 8 (by kernel_rfl) (by kernel_rfl) (by kernel_rfl) (by kernel_rfl)) ?_
 intro W base args ds gs before hval0 hW hcnd hsz _
 have hval:∀ (j:Nat) t v,Tryz.f4.params[j]? =some t→args[j]? =some v→Value.okWide Tryz.prog W .any base t v:=hval0
 have hW':=hW
 obtain⟨p,q,hA0,hV,rfl,hfz,hnd⟩:=hW
 have hA:DataW.TrodAll enc Tryz.prog W 0 (fun _=>true) true Tryz.f4.params.toList args.toList ds p:=hA0
 rw [Tryz.params4]at hA hval
 obtain⟨v0,vs0,d0,ds0,p0,q0,hargs,rfl,rfl,h0,r0⟩:=trodAll_cons hA
 obtain⟨v1,vs1,d1,ds1,p1,q1,rfl,rfl,rfl,h1,r1⟩:=trodAll_cons r0
 obtain⟨rfl,rfl,rfl⟩:=trodAll_nil r1
 obtain rfl:args=#[v0,v1]:=by cases args;simp_all
 obtain⟨rfl,rfl⟩:=trodVars_none hV
 obtain⟨a0,len0,cap0,rfl⟩:=okWide_slice Tryz.underlying22 (hval 0 22 v0 rfl rfl)
 have k0:=h0
 have lt0:∀ x ∈ p0,x.block < W.heap.size:=by obtain⟨m,hm⟩:=k0;exact DataW.trod_lt m _ _ _ hm
 have hz0:∀ k ∈ d0.weights Tryz.prog 22,k≤reachBytes:=fun k hk=>by
  have:=List.all_eq_true.1 hsz k (DataW.weights_mem_each (j:=0) (t:=22) (d:=d0) (by rfl) (by rfl) k hk)
  simpa using this
 obtain ⟨z0,w0⟩:∃ zs,Po W (fun x=>x < W.heap.size) ⟨a0,len0,cap0⟩ zs:=by
  obtain⟨fuel,hf⟩:=h0
  obtain⟨a,n,c,l,hcs,hi⟩:=Zdr hf hz0
  simp [Value.cells]at hcs
  obtain⟨rfl,rfl,rfl⟩:=hcs
  exact⟨_,hi⟩
 obtain⟨t1,rfl,rfl,rfl,hs1⟩:=Go.ChangeMaps.open_string Tryz.underlying9 (hval 1 9 v1 rfl rfl) h1
 obtain⟨s1,rfl⟩:∃ l,t1=str l:=⟨_,Z8h t1⟩
 clear hA0 hval0
 refine(walk a0 len0 cap0 z0 s1 W w0).mono fun e W' ⟨he,bel⟩=>?_
 subst he
 exact⟨_,rfl,_,_,_, [],_, [],hW',trodAll_mk1 (shut_bool Tryz.underlying4 _),(trodAll_cons_mk (Below.trod laidOut (by kernel_rfl) (of_decide_eq_true (by kernel_rfl)) k0 bel lt0) (trodAll_cons_mk (Go.ChangeMaps.shut_string Tryz.underlying9 hs1) trodAll_mk0)),rfl,bel.frame _,fun h=>by cases h⟩
theorem over:Rows.treeWalksRow.holds Tryz.pinned (OpenSpec.ofChange Rows.treeWalksSpec):=
 OpenClaim.holds_of_wide 4 Tryz.f4 rfl rfl rfl rfl rfl rfl rfl ⟨rfl,rfl,rfl,rfl,rfl⟩ rfl rfl rfl rfl rfl (by kernel_rfl) Tryz.func4 (by kernel_rfl)
  (of_decide_eq_true (by kernel_rfl)) (by unfold Func.isWrapper;first | (rw [if_pos (by decide+kernel)];kernel_rfl) | (rw [if_neg (by decide+kernel)];exact⟨rfl,rfl⟩))
  (fun os started H enc _=>lifted os started H enc)
end Go.Proofs.YtdnjddpfcgginaaGreat.treeWalks
namespace Go.Proofs.YtdnjddpfcgginaaGreat
/-- The statement. -/
theorem treeWalks_holds:Rows.TreeWalksSaid:=treeWalks.over
#print axioms treeWalks_holds
end Go.Proofs.YtdnjddpfcgginaaGreat
