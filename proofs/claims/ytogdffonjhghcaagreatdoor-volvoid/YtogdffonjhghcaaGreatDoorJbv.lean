/-
  Texts of my own, joined: no statement is proved here.
-/
import Derived.Test.YtogdffonjhghcaaGreatDoorJbs
import Derived.Test.YtogdffonjhghcaaGreatDoorJbu
set_option linter.unusedSimpArgs false
set_option linter.unusedVariables false
namespace Go.Proofs.YtogdffonjhghcaaGreatDoor
open Go.ChangeShapes Go.WideShapes Go.ChangeAt Go.RowKit
set_option maxRecDepth 100000
theorem least_ex {P:Nat→Prop} (h:∃ m,P m):∃ m,P m∧∀ k,P k→m≤k:=by
  obtain⟨m,hm⟩:=h
  induction m using Nat.strongRecOn with
  | ind m ih=>
    by_cases hk:∃ k,k < m∧P k
    · obtain⟨k,h1,h2⟩:=hk
      exact ih k h1 h2
    · exact⟨m,hm,fun k h=>Nat.le_of_not_lt fun hl=>hk ⟨k,hl,h⟩⟩
theorem eps_is {P:Nat→Prop} (h:∃ m,P m):P (Classical.epsilon fun m=>P m∧∀ k,P k→m≤k)∧∀ k,P k→(Classical.epsilon fun m=>P m∧∀ k,P k→m≤k)≤k:=Classical.epsilon_spec (least_ex h)
theorem eps_at {P:Nat→Prop} (h:∃ m,P m):∃ m,P m∧Hid ((Classical.epsilon fun m=>P m∧∀ k,P k→m≤k)=m):=⟨_,(eps_is h).1,rfl⟩
theorem brs_g {f:Bool} :∀ (L:List Int) (V:VZ),Rise V.g.l→(V.brs f L).1=0→(V.brs f L).2.g=V.g.cr L∧(V.brs f L).2.fr=V.fr∧(V.brs f L).2.s=V.s∧(V.brs f L).2.w=V.w
  | [],V,_,_=>⟨rfl,rfl,rfl,rfl⟩
  | i::r,V,hr,h=>by
    unfold VZ.brs at h ⊢
    by_cases hi:V.brgE i f=0
    · rw [if_pos hi]at h ⊢
      have hg:(V.brg i f).g=V.g.wr (rdy V.g.l i)∧(V.brg i f).fr=V.fr∧(V.brg i f).s=V.s∧(V.brg i f).w=V.w:=by
        unfold VZ.brgE at hi
        unfold VZ.brg
        by_cases h1:V.c.holdE i=0
        · rw [if_pos h1]at hi ⊢
          by_cases h2:stoE (V.c.hold i) i (V.nxt i) f=0
          · rw [if_pos h2];exact⟨rfl,rfl,rfl,rfl⟩
          · rw [if_neg h2]at hi;exact absurd hi h2
        · rw [if_neg h1]at hi;exact absurd hi h1
      obtain⟨k1,k2,k3,k4⟩:=brs_g r (V.brg i f) (brg_rise hr i f) h
      refine⟨?_,by rw [k2,hg.2.1],by rw [k3,hg.2.2.1],by rw [k4,hg.2.2.2]⟩
      rw [k1,hg.1];rfl
    · rw [if_neg hi]at h;exact absurd h hi
theorem cary_g {V:VZ} {L:List Int} {f:Bool} (hr:Rise V.g.l) (h:(V.cary L f).1=0):(V.cary L f).2.g=V.g.car L:=by
  unfold VZ.cary at h ⊢
  by_cases h0:(V.brs f L).1=0
  · rw [if_pos h0]at h ⊢
    have hg:=(brs_g L V hr h0).1
    have h':(V.brs f L).2.endE f=0:=h
    show((V.brs f L).2.endB f).g=_
    unfold VZ.endE at h'
    unfold VZ.endB
    cases f
    · simp only [Bool.false_eq_true,if_false]at h' ⊢
      rw [if_pos h']
      show(V.brs false L).2.g.stl _=_
      rw [hg];rfl
    · simp only [if_true]
      show(V.brs true L).2.g.stl _=_
      rw [hg];rfl
  · rw [if_neg h0]at h;exact absurd h h0
section
variable {u : World} {A : VA} {V : VZ} {U E F T B : Nat → Prop} {t k : Nat}
structure StI (u wr:World) (A:VA) (V V':VZ) (T:Nat→Prop) (is:List Int) (k M N m g5:Nat) (sv:Sv):Prop where
  f:VZ.stlF is N V=VZ.stlF is m V'
  nd:(nd is V'.g.l).length≤m
  ok:∃ t',VOk t' k V'∧t'+(3 * M+1) * m≤8960
  ml:V'.g.l.length≤M
  cb:Cs wr g5 (btc (.slice sv.a sv.n sv.c) (frS (bsS is V'.g.l) V'.g.l))
  ap:∃ T',Vo wr A V' T'∧Stp T u wr∧Grew T T' u wr∧¬T' g5∧InsS wr sv (bsS is V'.g.l)∧InE (fun x=>¬T' x) sv
def StR (u:World) (A:VA) (V:VZ) (T:Nat→Prop) (is:List Int) (k M N:Nat) (v5 v6:Value) (wr:World) (m:Nat):Prop:=
  ∃ V' g5 sv,v5= .pointer (some ⟨g5,0,none⟩)∧v6= .bool (mor is V'.g.l)∧StI u wr A V V' T is k M N m g5 sv
theorem vnext_any (H:Vx u A V U E F) (n6:∀ p ∈ V.g.l,p.needs.length≤6) {s:Sv} {is:List Int} (hs:InsS u s is) (hl:is.length≤1000) (hM:V.g.l.length≤100):
    Calls Tryz.prog 96 #[.pointer (some ⟨A.g,0,none⟩), .slice s.a s.n s.c] u fun e w'=>∃ sv:Sv,e= .returned (.tuple #[.agg (btc (.slice sv.a sv.n sv.c) (frS (bsS is V.g.l) V.g.l)).toArray, .bool (mor is V.g.l)])∧InsS w' sv (bsS is V.g.l)∧InE (fun x=>u.heap.size≤x) sv∧Below u.heap.size u w':=by
  have hok:=H.gh.ok
  obtain⟨_,_,_,_,hg⟩:=H.gh
  refine(next_any hg hs hl hM n6).mono ?_
  rintro e w' ⟨v,rfl,o2,n2,b2⟩
  obtain⟨⟨va,vn,vc⟩,e4, -,iv,ev⟩:=o2.ins (bsS_wfi hok is) n2
  have e4':v= .slice va vn vc:=e4
  subst e4'
  exact⟨⟨va,vn,vc⟩,rfl,iv,ev.mono (fun x hx=>hx.1),b2⟩
set_option maxHeartbeats 4000000 in
theorem vsettle_any (H:Vx u A V U E F) (ok:VOk t k V) {s:Sv} {is:List Int} (hs:InsS u s is) (he:InE B s) (hB:∀ x,B x→¬T x) (hl:is.length≤1000) {M N:Nat} (hM:V.g.l.length≤M) (hM1:M≤100) (hN:(nd is V.g.l).length≤N) (hb:t+(3 * M+1) * N≤8960) (hT:∀ x,T x↔Vt A U E F x):
    Calls Tryz.prog 31 #[.pointer (some ⟨A.v,0,none⟩), .slice s.a s.n s.c] u fun e w'=>∃ r:Int×VZ,VZ.stlF is N V=some r∧e= .returned (.int .i64 r.1)∧VG A r.2 T u w':=by
  have hNx:=vnext_any H ok.n6 hs hl (by omega)
  have hlt:∀ x,T x→x < u.heap.size:=fun x hx=>H.lt x ((hT x).1 hx)
  have hVo:Vo u A V T:=⟨U,E,F,H,hT⟩
  have y1:=H.cells.2.1
  obtain⟨na,nn,nc⟩:=s
  obtain⟨b0,hb0⟩:∃ b,Hid (mor is V.g.l=b):=⟨_,rfl⟩
  obtain⟨f0,hf0⟩:∃ b,Hid (frS (bsS is V.g.l) V.g.l=b):=⟨_,rfl⟩
  rw [hb0.out,hf0.out]at hNx
  have t1:Hid True:=trivial
  go_enter Tryz.func31,Tryz.ntmps31
  go_wp2_with (first
    | (go_at_call 96;refine hNx.mono ?_;rintro e w2 ⟨⟨va,vn,vc⟩,rfl,iv,ev,b2⟩;clear hNx)
    | (refine at_newBt (by rfl) (by rfl) ?_;intro g3 w3 a3 a4 r3 b3)
    | (refine at_putBt (by rfl) _ _ (by rfl) g3 (by rfl) (.slice va vn vc) rfl _ (by rfl) _ r3 rfl ?_;intro w4 r4 s4))
  have hs2:=b2.size
  have hs3:=b3.size
  have B24:Below u.heap.size u w4:=((Stp.of_below (bnext b2 b3 (Nat.le_refl _)) (fun _=>False)).next s4 (fun x e=> .inr (by omega))).below (Nat.le_refl _) (fun x e=>e.elim)
  have iv4:InsS w4 ⟨va,vn,vc⟩ (bsS is V.g.l):=(iv.later b3).step s4 (E:=fun x=>x < w2.heap.size) (fun ad e h0=>by
    obtain⟨b',o',e',hc⟩:=iv.i.cell h0
    rw [e]at e';injection e' with e';subst e'
    exact World.block_lt_of_cell? w2 _ (hc 0 h0)) (fun x hx e=>by omega)
  have start:StR u A V T is k M N (.pointer (some ⟨g3,0,none⟩)) (.bool b0) w4 N:=⟨V,g3,⟨va,vn,vc⟩,rfl,by rw [hb0.out],rfl,hN,⟨t,ok,hb⟩,hM,by rw [hf0.out];exact r4,T,hVo.later B24,Stp.of_below B24 T,Grew.refl _ _ _,fun e=>by have:=hlt _ e;omega,iv4,ev.mono (fun x hx e=>by have:=hlt x e;omega)⟩
  clear b2 b3 s4 r3 r4 iv ev iv4 y1 a3 a4
  go_loopw [5,6] (fun v5 v6 wr=>∃ m,StR u A V T is k M N v5 v6 wr m) (fun v5 v6 wr=>Classical.epsilon (fun m=>StR u A V T is k M N v5 v6 wr m∧∀ k0,StR u A V T is k M N v5 v6 wr k0→m≤k0))
  case atStart=>exact⟨N,start⟩
  case round=>
    clear start
    obtain⟨m,hP,hm⟩:=eps_at hrel
    obtain⟨V',g5,⟨sa,sn,sc⟩,rfl,rfl,I⟩:=hP
    obtain⟨t',ok',hb'⟩:=I.ok
    obtain⟨T',⟨U1,E1,F1,H1,hT1⟩,s1,g1,n5,iv,ev⟩:=I.ap
    have hf:=I.f
    have hnd:=I.nd
    have hml:=I.ml
    have hcb:Cs wr g5 (btc (.slice sa sn sc) (frS (bsS is V'.g.l) V'.g.l)):=I.cb
    have hlt1:∀ x,T' x→x < _:=fun x hx=>H1.lt x ((hT1 x).1 hx)
    cases hmr:mor is V'.g.l
    · have hr:Hid (VZ.stlF is N V=some (0,V')):=by
        show _=_
        rw [hf]
        cases m with
        | zero=>unfold VZ.stlF;rw [hmr];rfl
        | succ m=>unfold VZ.stlF;rw [hmr];rfl
      clear hrel hm I hf
      go_wp2_with fail
      go_returns
      first | exact⟨0,V',hr.out,rfl,T',⟨U1,E1,F1,H1,hT1⟩,s1,g1⟩ | exact⟨(0,V'),hr.out,rfl,T',⟨U1,E1,F1,H1,hT1⟩,s1,g1⟩
    · rw [hmr]at hm
      have hne:nd is V'.g.l≠ []:=fun e=>by have:=(mor_no e).1;rw [hmr]at this;cases this
      obtain⟨m',rfl⟩:∃ m',m=m'+1:=⟨m - 1,by have:0 < (nd is V'.g.l).length:=List.length_pos_iff.2 hne;omega⟩
      have hL:(bsS is V'.g.l).length≤M:=Nat.le_trans (bsS_few H1.gh.ok is) hml
      have hmul:(3 * M+1) * (m'+1)=(3 * M+1) * m'+(3 * M+1):=by rw [Nat.mul_succ]
      have hC:=vcarry_any H1 ok' iv ev (fun x hx=>hx) (by omega) (frS (bsS is V'.g.l) V'.g.l) hT1
      have hrs:=H1.gh.ok.srt
      have hokC:=ok'.cary hrs (bsS is V'.g.l) (frS (bsS is V'.g.l) V'.g.l)
      have hgC:=cary_g (V:=V') (L:=bsS is V'.g.l) (f:=frS (bsS is V'.g.l) V'.g.l) hrs
      have hless:=car_less H1.gh.ok hne
      have hlen:=car_len hrs (bsS is V'.g.l)
      have hstep:VZ.stlF is (m'+1) V'=if (V'.cary (bsS is V'.g.l) (frS (bsS is V'.g.l) V'.g.l)).1=0 then VZ.stlF is m' (V'.cary (bsS is V'.g.l) (frS (bsS is V'.g.l) V'.g.l)).2 else some (V'.cary (bsS is V'.g.l) (frS (bsS is V'.g.l) V'.g.l)):=by
        conv=>lhs;unfold VZ.stlF
        rw [if_pos hmr]
      rw [hstep]at hf
      generalize hcy:V'.cary (bsS is V'.g.l) (frS (bsS is V'.g.l) V'.g.l)=CY at *
      obtain⟨e0,V2⟩:=CY
      simp only at hC hokC hgC hf
      have hbd:t'+3 * (bsS is V'.g.l).length+1+(3 * M+1) * m'≤8960:=by omega
      have hf':Hid (VZ.stlF is N V=if e0=0 then VZ.stlF is m' V2 else some (e0,V2)):=hf
      have hq:Hid (e0=0→(nd is V2.g.l).length≤m'∧V2.g.l.length≤M):=fun h=>by
        rw [hgC h];exact⟨by omega,by omega⟩
      have hokC':Hid (VOk (t'+3 * (bsS is V'.g.l).length+1) k V2∧t'+3 * (bsS is V'.g.l).length+1+(3 * M+1) * m'≤8960):=⟨hokC,hbd⟩
      clear hrel I hf hgC hless hlen hstep hcy hmul hb'
      obtain⟨y0,hy0⟩:∃ y,Hid (frS (bsS is V'.g.l) V'.g.l=y):=⟨_,rfl⟩
      rw [hy0.out]at hcb hC
      have t2:Hid True:=trivial
      by_cases h0:e0=0
      · subst h0
        obtain⟨q1,q2⟩:=hq.out rfl
        obtain⟨b0,hb0⟩:∃ b,Hid (mor is V2.g.l=b):=⟨_,rfl⟩
        obtain⟨f1,hf1⟩:∃ b,Hid (frS (bsS is V2.g.l) V2.g.l=b):=⟨_,rfl⟩
        go_wp2_with (first
          | (clear t2;refine at_getBt (by rfl) _ (by rfl) g5 (by rfl) _ _ hcb ?_)
          | (go_at_call 97;refine hC.mono ?_;rintro e w6 ⟨rfl,k6⟩;clear hC
             have hc6:=hcb.step k6.stp n5
             have K6:=VG.seq s1 g1 k6
             obtain⟨T6,⟨U6,E6,F6,H6,hT6⟩,s6,g6⟩:=K6
             have hlt6:∀ x,T6 x→x < w6.heap.size:=fun x hx=>H6.lt x ((hT6 x).1 hx)
             have hN6:=fun w' (b:Below w6.heap.size w6 w')=>vnext_any (H6.later b) hokC'.out.1.n6 ((hs.step s6 he hB).later b) hl (by omega)
             rw [hb0.out,hf1.out]at hN6
             clear hcb k6)
          | (refine at_getBt (by rfl) _ (by rfl) g5 (by rfl) _ _ hc6 ?_)
          | (clear t1;refine at_newBt (by rfl) (by rfl) ?_;intro g7 w7 a7 z7 r7 b7)
          | (refine at_putBt (by rfl) _ _ (by rfl) g7 (by rfl) (.slice sa sn sc) rfl _ (by rfl) _ r7 rfl ?_;intro w8 r8 s8
             have B8:Below w6.heap.size w6 w8:=((Stp.of_below b7 (fun _=>False)).next s8 (fun x e=> .inr (by omega))).below (Nat.le_refl _) (fun x e=>e.elim)
             have y8:=(H6.later B8).cells.2.1)
          | (go_at_call 96;refine(hN6 _ B8).mono ?_;rintro e w9 ⟨⟨va,vn,vc⟩,rfl,i9,e9,b9⟩;clear hN6)
          | (refine at_putBt (by rfl) _ _ (by rfl) g7 (by rfl) (.slice va vn vc) rfl _ (by rfl) _ (r8.step (Stp.of_below b9 (fun _=>False)) id) rfl ?_;intro w10 r10 s10))
        have hz8:=B8.size
        have hz9:=b9.size
        have B10:Below w6.heap.size w6 w10:=((Stp.of_below (bnext B8 b9 (Nat.le_refl _)) (fun _=>False)).next s10 (fun x e=> .inr (by omega))).below (Nat.le_refl _) (fun x e=>e.elim)
        have i10:InsS w10 ⟨va,vn,vc⟩ (bsS is V2.g.l):=i9.step s10 (E:=fun x=>w8.heap.size≤x) e9 (fun x hx e=>by have:=r8.lt;omega)
        have J:StR u A V T is k M N (.pointer (some ⟨g7,0,none⟩)) (.bool b0) w10 m':=⟨V2,g7,⟨va,vn,vc⟩,rfl,by rw [hb0.out],by rw [hf'.out];rfl,q1,⟨_,hokC'.out.1,hokC'.out.2⟩,q2,by rw [hf1.out];exact r10,T6,⟨U6,E6,F6,H6.later B10,hT6⟩,s6.trans (Stp.of_below B10 T),g6.trans (Grew.refl _ _ _) s6.size B10.size,fun e=>by have:=hlt6 _ e;omega,i10,e9.mono (fun x hx e=>by have:=hlt6 x e;omega)⟩
        go_roundw
        case rel=>exact⟨m',J⟩
        case measure=>exact Nat.lt_of_le_of_lt ((eps_is ⟨m',J⟩).2 m' J) (Nat.lt_of_lt_of_eq (Nat.lt_succ_self m') hm.out.symm)
      · have hd0:¬e0=0:=h0
        have hr:Hid (VZ.stlF is N V=some (e0,V2)):=by show _=_;rw [hf'.out,if_neg h0]
        go_wp2_with (first
          | (clear t2;refine at_getBt (by rfl) _ (by rfl) g5 (by rfl) _ _ hcb ?_)
          | (go_at_call 97;refine hC.mono ?_;rintro e w6 ⟨rfl,k6⟩;clear hC))
        go_returns
        first | exact⟨e0,V2,hr.out,rfl,VG.seq s1 g1 k6⟩ | exact⟨(e0,V2),hr.out,rfl,VG.seq s1 g1 k6⟩
end
set_option maxRecDepth 100000
def VZ.same (V:VZ) (gr:Nat):Bool:=V.w.right&&decide (V.w.says=gr)
def VZ.tnE (V:VZ) (gr:Nat):Int:=if V.same gr then 0 else turnErr V.p
def VZ.tn (V:VZ) (gr:Nat):VZ:=if V.same gr then V else { V with w:=V.w.turn (gr % 256) V.p,c:= { V.c with p:=some V.p.turn} }
section
variable {u : World} {A : VA} {V : VZ} {U E F T B : Nat → Prop} {t k : Nat}
set_option maxHeartbeats 4000000 in
theorem vturn_any (H:Vx u A V U E F) (ok:VOk t k V) (ht:t≤9000) (gr:Nat) (hgr:gr < 256):
    Calls Tryz.prog 82 #[.pointer (some ⟨A.v,0,none⟩), .int .u32 (gr:Int)] u fun e w'=>e= .returned (.int .i64 (V.tnE gr))∧Vx w' A (V.tn gr) U E F∧Stp (fun x=>x=A.w∨U x) u w':=by
  obtain⟨e,h1,h2⟩:=H.p
  have hS:=nsays_any A.w V.w (some A.s) u H.ww
  have hK:=fun w' (b:Below u.heap.size u w')=>keep_any A.w gr V.w (some A.s) V.p w' (H.ww.stp (Stp.of_below b (fun _=>False)) id) ((H.later b).p.2.1) (H.tb.later b) (ok.c.okk (k:=3) (by omega) e) (by omega) (fun h=>by injection h with h;exact H.uw.1 (h▸h2)) (fun y hy=>by
    have:y ∈ [A.s]:=hy
    rw [List.mem_singleton]at this;subst this;exact Nat.lt_of_lt_of_le (H.ca.lt _ h2) b.size)
  have y3:=H.cells.2.2.2.1
  unfold VZ.tnE VZ.tn VZ.same
  obtain⟨r0,hr0⟩:∃ r,Hid (V.w.right=r):=⟨_,rfl⟩
  obtain⟨q0,hq0⟩:∃ r,Hid (V.w.says=r):=⟨_,rfl⟩
  rw [hr0.out,hq0.out]at hS ⊢
  go_enter Tryz.func82,Tryz.ntmps82
  by_cases hr:r0=true∧q0=gr
  · obtain⟨rfl,rfl⟩:=hr
    go_wp2_with (first
      | (go_at_call 25;refine hS.mono ?_;rintro e w2 ⟨rfl,b2⟩;clear hS))
    go_returns
    refine⟨?_,?_,Stp.of_below b2 _⟩
    · first | rfl | simp
    · first | exact H.later b2 | (simp;exact H.later b2)
  · have hb:(r0&&decide (q0=gr))=false:=by
      cases r0
      · rfl
      · simp at hr ⊢;exact hr
    rw [hb,if_neg (by decide),if_neg (by decide)]
    have fin:∀ w2 w3,Below u.heap.size u w2→Step (A.w::(some A.s).toList) w2 w3→Ww w3 A.w (V.w.turn (gr % 256) V.p) (some A.s)→Sp w3 (some A.s) V.p.turn→Vx w3 A { V with w:=V.w.turn (gr % 256) V.p,c:= { V.c with p:=some V.p.turn} } U E F∧Stp (fun x=>x=A.w∨U x) u w3:=fun w2 w3 b2 k1 k2 k3=>by
      obtain⟨h3,h4⟩:=(H.later b2).ofW k1 k2 k3
      exact⟨h3,(Stp.of_below b2 _).trans h4⟩
    obtain⟨tE,htE⟩:∃ r,Hid (turnErr V.p=r):=⟨_,rfl⟩
    rw [htE.out]at hK ⊢
    have hcase:r0=false∨(r0=true∧¬(q0:Int)=(gr:Int)):=by
      cases r0
      · exact .inl rfl
      · refine .inr ⟨rfl,fun e=>?_⟩
        have:q0=gr:=by omega
        simp [this]at hb
    rcases hcase with rfl | ⟨rfl,hne⟩
    · go_wp2_with (first
        | (go_at_call 25;refine hS.mono ?_;rintro e w2 ⟨rfl,b2⟩;clear hS;have y4:=(H.later b2).cells.2.2.2.1;clear y3)
        | (go_at_call 102;refine(hK _ b2).mono ?_;rintro e w3 ⟨rfl,k1,k2,k3⟩;clear hK))
      go_returns
      exact⟨rfl,fin w2 w3 b2 k1 k2 k3⟩
    · go_wp2_with (first
        | (go_at_call 25;refine hS.mono ?_;rintro e w2 ⟨rfl,b2⟩;clear hS;have y4:=(H.later b2).cells.2.2.2.1;clear y3)
        | (go_at_call 102;refine(hK _ b2).mono ?_;rintro e w3 ⟨rfl,k1,k2,k3⟩;clear hK))
      go_returns
      exact⟨rfl,fin w2 w3 b2 k1 k2 k3⟩
set_option maxHeartbeats 4000000 in
theorem vsettleAll_nil (H:Vx u A V U E F) (hg:V.g.l= []):
    Calls Tryz.prog 79 #[.pointer (some ⟨A.v,0,none⟩)] u fun e w'=>e= .returned (.int .i64 0)∧Below u.heap.size u w':=by
  have hA:Calls Tryz.prog 58 #[.pointer (some ⟨A.g,0,none⟩)] u fun e w'=>∃ a c,e= .returned (.slice a 0 c)∧Below u.heap.size u w':=by
    obtain⟨_,_,_,_,h⟩:=H.gh
    refine(all_any h).mono ?_
    rintro e w' ⟨v,rfl,o2,n2,b2⟩
    rw [hg]at o2
    have o3:OwV w' v []:=o2
    obtain⟨⟨va,vn,vc⟩,e4,e5, -, -⟩:=o3.ins (fun x hx=>by cases hx) n2
    have e4':v= .slice va vn vc:=e4
    have e5':vn=0:=e5
    subst e4';subst e5'
    exact⟨_,_,rfl,b2⟩
  have y1:=H.cells.2.1
  go_enter Tryz.func79,Tryz.ntmps79
  go_wp2_with (first
    | (go_at_call 58;refine hA.mono ?_;rintro e w2 ⟨va,vc,rfl,b2⟩;clear hA))
  refine wp_loop_rounds 1 ?_
  rw [rounds_succ]
  go_wp2
  go_returns
  exact⟨rfl,b2⟩
set_option maxHeartbeats 4000000 in
theorem vgroups_nil (H:Vx u A V U E F):
    Calls Tryz.prog 83 #[.pointer (some ⟨A.v,0,none⟩), .slice none 0 0] u fun e w'=>e= .returned (.int .u32 0)∧u=w':=by
  go_enter Tryz.func83,Tryz.ntmps83
  go_wp2
  refine wp_loop_rounds 1 ?_
  rw [rounds_succ]
  go_wp2
  go_returns
  exact⟨rfl,rfl⟩
set_option maxHeartbeats 4000000 in
theorem vsync_nil (H:Vx u A V U E F) (ok:VOk t k V) (ht:t≤9000) (hg:V.g.l= []):
    Calls Tryz.prog 18 #[.pointer (some ⟨A.v,0,none⟩), .slice none 0 0] u fun e w'=>e= .returned (.int .i64 (V.tnE 0))∧Vx w' A (V.tn 0) U E F∧Stp (fun x=>x=A.w∨U x) u w':=by
  have hS:=vsettleAll_nil H hg
  have hGr:=fun w' (b:Below u.heap.size u w')=>vgroups_nil (H.later b)
  have hTn:=fun w' (b:Below u.heap.size u w')=>vturn_any (H.later b) ok ht 0 (by omega)
  generalize V.tnE 0=e0 at *
  go_enter Tryz.func18,Tryz.ntmps18
  go_wp2_with (first
    | (go_at_call 79;refine hS.mono ?_;rintro e w2 ⟨rfl,b2⟩;clear hS;have y7:=(H.later b2).cells.2.2.2.2.2.2.2))
  refine wp_loop_rounds 1 ?_
  rw [rounds_succ]
  go_wp2_with (first
    | (go_at_call 83;refine(hGr _ b2).mono ?_;rintro e w3 ⟨rfl,rfl⟩;clear hGr)
    | (go_at_call 82;refine(hTn _ b2).mono ?_;rintro e w4 ⟨rfl,H4,s4⟩;clear hTn))
  go_returns
  exact⟨rfl,H4,(Stp.of_below b2 _).trans s4⟩
end
section
variable {u : World} {A : VA} {V : VZ} {U E F T X : Nat → Prop} {t k : Nat}
theorem grp_lt (V:VZ) (x:Int):V.grp x < 8∧((V.grp x:Nat):Int)=V.s.pg x:=by
  have h:0≤V.s.pg x∧V.s.pg x < 8:=by
    by_cases hx:V.s.hasW x
    · by_cases h2:2≤x
      · obtain⟨h1,h3,h4,h5,h6,h7⟩:=V.s.wF hx h2
        obtain⟨_,g8,_⟩:=h1
        omega
      · unfold Gm.pg;rw [if_pos hx,if_pos (by omega)];omega
    · unfold Gm.pg;rw [if_neg hx];omega
  unfold VZ.grp
  omega
theorem vmark_any (H:Vx u A V U E F) (ok:VOk t k V) (ht:t≤9000) (n:Nat) (hn:n < 8):
    Calls Tryz.prog 93 #[.pointer (some ⟨A.w,0,none⟩), .int .i64 (n:Int)] u fun e w'=>e= .returned (.int .i64 (V.mrkE n))∧Vx w' A (V.mrk n) U E F∧Stp (fun x=>x=A.w∨U x) u w':=by
  obtain⟨e,h1,h2⟩:=H.p
  refine (mark_any A.w n V.w (some A.s) V.p u H.ww h1 H.tb (ok.c.okk (k:=3) (by omega) e) hn (fun h=>by injection h with h;exact H.uw.1 (h▸h2)) (fun y hy=>by
    have:y ∈ [A.s]:=hy
    rw [List.mem_singleton]at this;subst this;exact H.ca.lt _ h2)).mono ?_
  rintro e w' ⟨rfl,k1,k2,k3⟩
  obtain⟨h3,h4⟩:=H.ofW k1 k2 k3
  exact⟨rfl,h3,h4⟩
theorem add_L {w:World} {g:Nat} {Z:GZ} {E F X:Nat→Prop} (H:Gh w g Z E F) (p:Pt) (d n:Sv) (hp:p.wfp) (hpm:PtM w X p d n) (hX:∀ x,X x→¬F x) (hlt:Z.last < 2000) (hd:p.data.length≤100000) (hn:p.needs.length≤100000):
    Calls Tryz.prog 92 #[.pointer (some ⟨g,0,none⟩), .agg (p.cs d n).toArray] w fun e w'=>e= .returned (.tuple #[.int .i64 (Z.addN p), .int .i64 (Z.addE p)])∧∃ E' F',Gh w' g (Z.add p) E' F'∧Stp F w w'∧Grew F F' w w'∧Grew E E' w w':=by
  obtain⟨mp,mw,f,fw,hg⟩:=H
  exact add_any hg p d n hp hpm hX hlt hd hn
set_option maxRecDepth 100000 in
set_option maxHeartbeats 4000000 in
theorem vpatch_any (H:Vx u A V U E F) (ok:VOk t k V) (ht:t≤8990) (hk:k < 2000) (hT:∀ x,T x↔Vt A U E F x) (p:Pt) (d n:Sv) (hp:p.wfp) (hpm:PtM u X p d n) (hX:∀ x,X x→¬F x) (hd:p.data.length≤100000) (hn:p.needs.length≤6):
    Calls Tryz.prog 28 #[.pointer (some ⟨A.v,0,none⟩), .agg (p.cs d n).toArray] u fun e w'=>e= .returned (.tuple #[.int .i64 (V.patN p), .int .i64 (V.patE p)])∧VG A (V.pat p) T u w':=by
  have hGp:=fun w' (b:Below u.heap.size u w')=>vgroup_any (H.later b) p.at'
  obtain⟨g8,gI⟩:=grp_lt V p.at'
  have hla:=ok.la
  have hAdd:=fun w' (b:Below u.heap.size u w')=>add_L (H.later b).gh p d n hp (hpm.later b) hX (by omega) hd (by omega)
  rw [← gI]at hGp
  have hE1:V.hasG p.at'=false→V.patE p=2∧V.patN p=0∧V.pat p=V:=fun h=>by
    have e:V.patE p=2:=by unfold VZ.patE;rw [h];rfl
    refine⟨e,?_,?_⟩
    · unfold VZ.patN;rw [e];rfl
    · unfold VZ.pat;rw [h];rfl
  have hE2:V.hasG p.at'=true→V.g.addOk p=false→V.patE p=2∧V.patN p=0∧V.pat p=V∧V.g.addE p=2∧V.g.add p=V.g:=fun h h2=>by
    have e:V.patE p=2:=by unfold VZ.patE;rw [h,h2];rfl
    refine⟨e,?_,?_,?_,?_⟩
    · unfold VZ.patN;rw [e];rfl
    · unfold VZ.pat;rw [h,h2];rfl
    · unfold GZ.addE;rw [h2];rfl
    · unfold GZ.add;rw [h2];rfl
  have hE3:V.hasG p.at'=true→V.g.addOk p=true→V.patE p=V.mrkE (V.grp p.at')∧V.patN p=(if V.mrkE (V.grp p.at')=0 then V.g.last+1 else 0)∧V.pat p= { V with g:=V.g.add p}.mrk (V.grp p.at')∧V.g.addE p=0∧V.g.addN p=V.g.last+1:=fun h h2=>by
    have e:V.patE p=V.mrkE (V.grp p.at'):=by unfold VZ.patE;rw [h,h2];rfl
    refine⟨e,?_,?_,?_,?_⟩
    · unfold VZ.patN;rw [e]
    · unfold VZ.pat;rw [h,h2];rfl
    · unfold GZ.addE;rw [h2];rfl
    · unfold GZ.addN;rw [h2];rfl
  have hok2:VOk t (k+1) { V with g:=V.g.add p} :=ok.add p hn
  have hlt:=H.lt
  generalize hm:V.grp p.at'=m at *
  clear gI hm
  have hR:∀ (w2 w3:World) (E' F':Nat→Prop),Vx w2 A { V with g:=V.g.add p} U E' F'→Stp T u w2→(∀ x,Vt A U E' F' x→T x∨u.heap.size≤x)→Vx w3 A ({ V with g:=V.g.add p}.mrk m) U E' F'→Stp (fun x=>x=A.w∨U x) w2 w3→VG A ({ V with g:=V.g.add p}.mrk m) T u w3:=fun w2 w3 E' F' h2 s2 g2 h3 s3=>
    VG.is h3 (s2.next s3 (fun x hx=> .inl ((hT x).2 (by rcases hx with e | e;subst e;unfold Vt;simp;exact .inl e)))) g2
  cases hg:V.hasG p.at'
  · obtain⟨e1,e2,e3⟩:=hE1 hg
    rw [e1,e2,e3]
    rw [hg]at hGp
    clear e1 e2 e3 hE1 hE2 hE3 hAdd hR hok2
    go_enter Tryz.func28,Tryz.ntmps28
    go_wp2_with (first
      | (refine at_boxP (by rfl) _ (by rfl) p d n (by rfl) ?_;intro g1 w1 a1 z1 r1 b1;have c1:=r1.cell 1 _ rfl)
      | (go_at_call 91;refine(hGp _ b1).mono ?_;rintro e w2 ⟨rfl,b2⟩))
    go_returns
    exact⟨rfl,VG.is (H.later (bnext b1 b2 (Nat.le_refl _))) (Stp.of_below (bnext b1 b2 (Nat.le_refl _)) T) (fun x hx=> .inl ((hT x).2 hx))⟩
  · rw [hg]at hGp
    have hH:Hid (V.g.addE p=0→V.g.addOk p=true):=fun h=>by
      unfold GZ.addE at h
      cases ha:V.g.addOk p
      · rw [ha]at h;cases h
      · rfl
    have hH2:Hid (V.g.addE p≠0→V.g.addOk p=false):=fun h=>by
      unfold GZ.addE at h
      cases ha:V.g.addOk p
      · rfl
      · rw [ha]at h;exact absurd rfl h
    have hE2':Hid (V.g.addOk p=false→V.patE p=2∧V.patN p=0∧V.pat p=V∧V.g.addE p=2∧V.g.add p=V.g):=hE2 hg
    have hE3':Hid (V.g.addOk p=true→V.patE p=V.mrkE m∧V.patN p=(if V.mrkE m=0 then V.g.last+1 else 0)∧V.pat p= { V with g:=V.g.add p}.mrk m∧V.g.addE p=0∧V.g.addN p=V.g.last+1):=hE3 hg
    have hok':Hid (VOk t (k+1) { V with g:=V.g.add p}):=hok2
    have hadd0:Hid (V.g.addE p=V.g.addE p∧V.g.addN p=V.g.addN p):=⟨rfl,rfl⟩
    clear hE1 hE2 hE3 hok2 hadd0
    obtain⟨e1,he1⟩:∃ e1,Hid (V.g.addE p=e1):=⟨_,rfl⟩
    obtain⟨N0,hN0⟩:∃ e1,Hid (V.g.addN p=e1):=⟨_,rfl⟩
    rw [he1.out,hN0.out]at hAdd
    obtain⟨rN,hrN⟩:∃ r,Hid (V.patN p=r):=⟨_,rfl⟩
    obtain⟨rE,hrE⟩:∃ r,Hid (V.patE p=r):=⟨_,rfl⟩
    rw [hrN.out,hrE.out]
    go_enter Tryz.func28,Tryz.ntmps28
    go_wp2_with (first
      | (refine at_boxP (by rfl) _ (by rfl) p d n (by rfl) ?_;intro g1 w1 a1 z1 r1 b1;have c1:=r1.cell 1 _ rfl)
      | (go_at_call 91;refine(hGp _ b1).mono ?_;rintro e w2 ⟨rfl,b2⟩))
    have B2:=bnext b1 b2 (Nat.le_refl _)
    have H2:=H.later B2
    have r2:=r1.step (Stp.of_below b2 (fun _=>False)) id
    have hg1:¬F g1:=fun hf=>by have:=H.gh.lt.1 g1 hf;omega
    clear hGp c1 r1 b1 b2
    refine wp_region_held_drew (S:=fun x=>Stp F w2 x) (by kernel_rfl) (Stp.refl _ _).drew (fun hHeld=>?_)
    refine tk (i:=0) (oi:=⟨some 23, .move (.tmp 0),27,_,#[],none⟩) (v:= .pointer (some ⟨A.v,0,none⟩)) rfl (Or.inl ⟨by rfl,?_⟩) hHeld ?_
    · intro u hu
      go_simp
    try simp only [zp,zn,zq,zr,zs]
    refine tk (i:=1) (oi:=⟨some 24, .nilCheck (.tmp 23),0,_,#[⟨0, .data⟩],none⟩) (v:= .pointer (some ⟨A.v,0,none⟩)) rfl (Or.inl ⟨by rfl,?_⟩) hHeld ?_
    · intro u hu
      go_simp
    try simp only [zp,zn,zq,zr,zs]
    refine tk (i:=2) (oi:=⟨some 25, .fieldAddr 117 (.tmp 24) 1,0,_,#[⟨1, .data⟩],none⟩) (v:= .pointer (some ⟨A.v,1,none⟩)) rfl (Or.inl ⟨by rfl,?_⟩) hHeld ?_
    · intro u hu
      go_simp
    try simp only [zp,zn,zq,zr,zs]
    refine tk (i:=3) (oi:=⟨some 26, .fieldAddr 114 (.tmp 25) 0,0,_,#[⟨2, .data⟩],none⟩) (v:= .pointer (some ⟨A.v,1,none⟩)) rfl (Or.inl ⟨by rfl,?_⟩) hHeld ?_
    · intro u hu
      go_simp
    try simp only [zp,zn,zq,zr,zs]
    refine tk (i:=4) (oi:=⟨some 27, .load 92 (.tmp 26),92,_,#[⟨3, .data⟩],none⟩) (v:= .pointer (some ⟨A.g,0,none⟩)) rfl (Or.inl ⟨by rfl,?_⟩) hHeld ?_
    · intro u hu
      have x1:=(H2.c.step hu H2.uv.2.2.1).cell 1 _ rfl;go_simp
    try simp only [zp,zn,zq,zr,zs]
    refine tk (i:=5) (oi:=⟨some 28, .load 56 (.tmp 3),56,_,#[],none⟩) (v:= .agg (p.cs d n).toArray) rfl
      (yields_P (by rfl) _ (by rfl) g1 (by rfl) p d n (fun x hx=>r2.step hx hg1)) hHeld ?_
    try simp only [zp,zn,zq,zr,zs]
    refine wpAnyH_ready (rs:= [6]) (by kernel_rfl) (by simp) ?_
    refine(AllReadyH.cons (o:=⟨some 29, .call { callee:=Callee.value (.func 92),args:=#[.tmp 27, .tmp 28],argTypes:=#[92,56]},86,_,#[⟨4, .data⟩,⟨5, .data⟩],none⟩) rfl (fun K hK=>?_) AllReadyH.nil)
    go_simp
    refine(hAdd _ (bnext B2 (Below.refl _ _).drew (Nat.le_refl _))).mono ?_
    rintro e v3 ⟨rfl,E3,F3,q1,q2,q3,q4⟩
    try go_wp2_with fail
    refine hK.out _ _ ((Stp.refl F w2).drew.trans q2) (fun hHeld=>?_)
    clear hK K
    try simp only [zp,zn,zq,zr,zs]
    refine tk (i:=7) (oi:=⟨some 22, .move (.tmp 29),86,_,#[⟨6, .data⟩],none⟩) (v:= .tuple #[.int .i64 N0, .int .i64 e1]) rfl (Or.inl ⟨by rfl,?_⟩) hHeld ?_
    · intro u hu
      go_simp
    try simp only [zp,zn,zq,zr,zs]
    refine tk (i:=8) (oi:=⟨some 30, .extract (.tmp 22) 0,3,_,#[⟨7, .data⟩],none⟩) (v:= .int .i64 N0) rfl (Or.inl ⟨by rfl,?_⟩) hHeld ?_
    · intro u hu
      go_simp
    try simp only [zp,zn,zq,zr,zs]
    refine tk (i:=9) (oi:=⟨some 31, .extract (.tmp 22) 1,28,_,#[⟨7, .data⟩,⟨10, .gcOnly .lateStores⟩],none⟩) (v:= .int .i64 e1) rfl (Or.inl ⟨by rfl,?_⟩) hHeld ?_
    · intro u hu
      go_simp
    try simp only [zp,zn,zq,zr,zs]
    refine tk (i:=10) (oi:=⟨some 8, .assign (.tmp 30),3,_,#[⟨8, .data⟩,⟨6, .chain⟩,⟨0, .phase⟩,⟨1, .phase⟩,⟨2, .phase⟩,⟨3, .phase⟩,⟨4, .phase⟩,⟨5, .phase⟩,⟨6, .phase⟩,⟨7, .phase⟩,⟨8, .phase⟩,⟨9, .textOnly .lateStores⟩],none⟩) (v:= .int .i64 N0) rfl (Or.inl ⟨by rfl,?_⟩) hHeld ?_
    · intro u hu
      go_simp
    try simp only [zp,zn,zq,zr,zs]
    refine tk (i:=11) (oi:=⟨some 9, .assign (.tmp 31),28,_,#[⟨9, .data⟩,⟨10, .chain⟩,⟨0, .phase⟩,⟨1, .phase⟩,⟨2, .phase⟩,⟨3, .phase⟩,⟨4, .phase⟩,⟨5, .phase⟩,⟨6, .phase⟩,⟨7, .phase⟩,⟨8, .phase⟩,⟨9, .phase⟩,⟨10, .phase⟩],none⟩) (v:= .int .i64 e1) rfl (Or.inl ⟨by rfl,?_⟩) hHeld ?_
    · intro u hu
      go_simp
    try simp only [zp,zn,zq,zr,zs]
    refine wpAnyH_done (by kernel_rfl) ?_ _
    have H3:Vx v3 A { V with g:=V.g.add p} U E3 F3:=(H2.later (Below.refl _ _).drew).ofG q1 q2 q4 q3
    have S3:Stp T u v3:=(Stp.of_below (bnext B2 (Below.refl _ _).drew (Nat.le_refl _)) T).next q2 (fun x hx=> .inl ((hT x).2 (.inr (.inr (.inl hx)))))
    have g3:∀ x,Vt A U E3 F3 x→T x∨u.heap.size≤x:=Vt.more hT (fun x hx=> .inl hx) (fun x hx=>by rcases q4 x hx with e | e;exact .inl e;exact .inr (by have:=B2.size;have:w2.drew.heap.size=w2.heap.size:=rfl;omega)) (fun x hx=>by rcases q3 x hx with e | e;exact .inl e;exact .inr (by have:=B2.size;have:w2.drew.heap.size=w2.heap.size:=rfl;omega))
    clear hAdd q1 q2 q3 q4 r2 H2 hHeld
    by_cases h0:e1=0
    · subst h0
      obtain⟨f1,f2,f3,f4,f5⟩:=hE3'.out (hH.out he1.out)
      have hM:=vmark_any H3 hok'.out (by omega) m g8
      have y3:=H3.cells.2.2.2.1
      have hrr:Hid (rE=V.mrkE m∧rN=(if V.mrkE m=0 then V.g.last+1 else 0)∧N0=V.g.last+1∧V.pat p= { V with g:=V.g.add p}.mrk m):=⟨by rw [← hrE.out,f1],by rw [← hrN.out,f2],by rw [← hN0.out,f5],f3⟩
      have hmE:({ V with g:=V.g.add p} :VZ).mrkE m=V.mrkE m:=rfl
      rw [hmE]at hM
      obtain⟨mE,hmE'⟩:∃ r,Hid (V.mrkE m=r):=⟨_,rfl⟩
      rw [hmE'.out]at hM
      clear f1 f2 f3 f4 f5 hmE
      by_cases hm0:mE=0
      · subst hm0
        go_wp2_with (first
          | (go_at_call 93;refine hM.mono ?_;rintro e w4 ⟨rfl,H4,s4⟩;clear hM))
        go_returns
        obtain⟨p1,p2,p3,p4⟩:=hrr.out
        exact⟨by rw [p1,p2,p3,hmE'.out];rfl,by rw [p4];exact hR _ _ _ _ H3 S3 g3 H4 s4⟩
      · have hd0:¬mE=0:=hm0
        go_wp2_with (first
          | (go_at_call 93;refine hM.mono ?_;rintro e w4 ⟨rfl,H4,s4⟩;clear hM))
        go_returns
        obtain⟨p1,p2,p3,p4⟩:=hrr.out
        exact⟨by rw [p1,p2,hmE'.out,if_neg hm0];rfl,by rw [p4];exact hR _ _ _ _ H3 S3 g3 H4 s4⟩
    · obtain⟨f1,f2,f3,f4,f5⟩:=hE2'.out (hH2.out (by rw [he1.out];exact h0))
      have hrr:Hid (rE=2∧rN=0∧e1=2∧V.pat p=V∧V.g.add p=V.g):=⟨by rw [← hrE.out,f1],by rw [← hrN.out,f2],by rw [← he1.out,f4],f3,f5⟩
      clear f1 f2 f3 f4 f5
      go_wp2_with fail
      go_returns
      obtain⟨p1,p2,p3,p4,p5⟩:=hrr.out
      refine⟨by rw [p1,p2,p3];rfl,?_⟩
      rw [p4]
      rw [p5]at H3
      exact VG.is H3 S3 g3
end
set_option maxRecDepth 1000000
def wG:Gm:=⟨1,1,6⟩
def wD:DS:=(DS.new 11).load (blkL wG 11)
def wP:PS:=PS.fresh.turn
def wX:WS:=WS.turn ⟨0,0,0⟩ 0 PS.fresh
def wV0:VZ:=VZ.new wD wP wX 4
def wPt:Pt:=⟨0,6,0, [9],0, [],0,0,false⟩
def wV1:VZ:=wV0.pat wPt
def wV2:VZ:=wV1.look 6
theorem w_find:fdE (shw wD)=0:=by decide+kernel
theorem w_e1:wV0.patE wPt=0:=by decide+kernel
theorem w_n1:wV0.patN wPt=1:=by decide+kernel
theorem w_e2:wV1.nowE 6=0:=by decide+kernel
theorem w_b2:((wV1.nowB 6).l.getD 0 0).toNat=9:=by decide+kernel
def wL:List Int:=bsS [1] wV2.g.l
def wF:Bool:=frS wL wV2.g.l
def wV3:VZ:=(wV2.cary wL wF).2
theorem w_m2:mor [1] wV2.g.l=true:=by decide+kernel
theorem w_c3:(wV2.cary wL wF).1=0:=by decide+kernel
theorem w_m3:mor [1] wV3.g.l=false:=by decide+kernel
theorem w_l2:wV2.g.l.length≤1:=by decide+kernel
theorem w_n2:(nd [1] wV2.g.l).length≤1:=by decide+kernel
theorem w_ll:wL.length≤1:=by decide+kernel
theorem w_r3:VZ.stlF [1] 1 wV2=some (0,wV3):=by
  unfold VZ.stlF
  rw [if_pos w_m2]
  show(if (wV2.cary wL wF).1=0 then VZ.stlF [1] 0 wV3 else _)=_
  rw [if_pos w_c3]
  unfold VZ.stlF
  rw [w_m3];rfl
theorem w_d3:((wV3.c.d.shown 6).l.getD 0 0).toNat=9:=by decide+kernel
theorem w_w3:wV3.w.says.testBit 0=true:=by decide+kernel
theorem w_g3:wV3.g.l= []:=by
  have:wV3.g.l.isEmpty=true:=by decide+kernel
  exact List.isEmpty_iff.1 this
theorem w_e4:wV3.tnE 0=0:=by decide+kernel
theorem w_w4:(wV3.tn 0).w.says.testBit 0=false:=by decide+kernel
theorem w_tot:wG.total=((11:Nat):Int):=by decide+kernel
theorem w_ok0:VOk 3 0 wV0:=by
  refine⟨CZ.new_ok (by omega) (by omega) (fun i=>?_) (fun s h=>?_),rfl,Int.le_refl _,(fun p hp=>by cases hp)⟩
  · exact Nat.zero_le _
  · injection h with h;subst h;exact turn_okAt fresh_ok
end Go.Proofs.YtogdffonjhghcaaGreatDoor
