/-
  Texts of my own, joined: no statement is proved here.
-/
import Derived.Test.YtdnjddpfcgginaaGreatKar
import Derived.Test.YtdnjddpfcgginaaGreatKbc
import Derived.Test.YtdnjddpfcgginaaGreatKbd
import Derived.Test.YtdnjddpfcgginaaGreatKbe
import Derived.Test.YtdnjddpfcgginaaGreatKbf
set_option linter.unusedSimpArgs false
set_option linter.unusedVariables false
namespace Go.Proofs.YtdnjddpfcgginaaGreat
open Go.ChangeShapes Go.WideShapes Go.ChangeAt Go.RowKit
set_option maxRecDepth 100000
section
variable {w : World} {U : Nat → Prop} {y n : Nat} {Z : Tz}
theorem Z52 (w:World) {p:List UInt8} (hp:p.length≤5000) {E:Int} (hE:spE p=E):
 ∀ w',Below w.heap.size w w'→Calls Tryz.prog 49 #[.string (str p)] w' fun e u=>(∃ a N c,e= .returned (.tuple #[.slice a N c, .int .i64 E])∧Sts u a N c (spN p))∧Below w'.heap.size w' u:=fun w' b=>by
 rw [← hE];exact Z51 p w' hp
structure MvC (y:Nat) (Z:Tz) (w:World) (U:Nat→Prop) (D:Int) (a:List UInt8) (i D2:Int) (b:List UInt8):Prop where
 p1:∀ w',Below w.heap.size w w'→Calls Tryz.prog 75 #[.pointer (some ⟨y,0,none⟩), .int .i64 D, .string (str a), .int .i64 0] w' fun e u=>e= .returned (.tuple #[])∧DxG U y (Z.put D a 0) w' u
 p2:∀ U' w',Dx w' U' y (Z.put D a 0)→Calls Tryz.prog 75 #[.pointer (some ⟨y,0,none⟩), .int .i64 D2, .string (str b), .int .i64 0] w' fun e u=>e= .returned (.tuple #[])∧DxG U' y ((Z.put D a 0).put D2 b 0) w' u
 p3:∀ U' w',Dx w' U' y ((Z.put D a 0).put D2 b 0)→Calls Tryz.prog 75 #[.pointer (some ⟨y,0,none⟩), .int .i64 D2, .string (str b), .int .i64 i] w' fun e u=>e= .returned (.tuple #[])∧DxG U' y (((Z.put D a 0).put D2 b 0).put D2 b i) w' u
 ls:∀ j,(Z.nd j).k≠0→∀ U' w',Dx w' U' y (((Z.put D a 0).put D2 b 0).put D2 b i)→Calls Tryz.prog 76 #[.pointer (some ⟨y,0,none⟩), .int .i64 j] w' fun e u=>e= .returned (.tuple #[])∧DxG U' y (((((Z.put D a 0).put D2 b 0).put D2 b i).lnk j (-1)).gone j) w' u
theorem Zfb (h:Dx w U y Z) (hz:Z.ok n) (hn:n≤900) {D D2:Int} (h1:(Z.nd D).k=2) (h2:(Z.nd D2).k=2) (a b:List UInt8) (i:Int):MvC y Z w U D a i D2 b:=by
 have l1:=Z18 hz (i:=D) (by rw [h1];decide)
 have l2:=Z18 hz (i:=D2) (by rw [h2];decide)
 have z1:=hz.put0 h1 a
 have k1:=(Z3o (Z:=Z) (i:=0) (s:=a) l1.2 D2).1
 have l3:D2.toNat < (Z.put D a 0).N.length:=by rw [Z0h];exact l2.2
 have z2:=z1.put0 (d:=D2) (by rw [k1];exact h2) b
 have l4:D2.toNat < ((Z.put D a 0).put D2 b 0).N.length:=by rw [Z0h];exact l3
 refine⟨Z84 h hz hn (by rw [h1];decide) a 0,fun U' w' t=>Z40 t ⟨l2.1,l3⟩ (z1.so D2) (by have:=z1.nl D2;omega) b 0,fun U' w' t=>Z40 t ⟨l2.1,l4⟩ (z2.so D2) (by have:=z2.nl D2;omega) b i,fun j hj U' w' t=>Z73 t ⟨(Z18 hz hj).1,by rw [Z0h,Z0h,Z0h];exact(Z18 hz hj).2⟩ ?_⟩
 rw [(Z3o l4 j).2]
 exact z2.lx j
theorem Z6e {o:Oz} {E:Int} (h:Z.reE2 o=E) (hE:E≠0):Z.rnE o=E:=by
 unfold Tz.rnE;rw [h,if_neg hE]
theorem Z79 {o:Oz} {E:Int} (h:Z.reE1 o=E) (hE:E≠0):Z.rnE o=E:=by
 refine Z6e ?_ hE
 unfold Tz.reE2;rw [h,if_neg hE]
theorem Z8u (h:Dx w U y Z) (hz:Z.ok n) (hn:n≤900) (o:Oz) (ho:o.wfo) (s:Sv):
 Calls Tryz.prog 33 #[.pointer (some ⟨y,0,none⟩), .agg (opC o s).toArray] w fun e w'=>RetY e U y (if Z.rnE o=0 then Z.rnS o else Z) (Z.rnE o) w w':=by
 by_cases h1:spE o.p=0
 rotate_left
 · have e1:Z.rnE o=spE o.p:=Z79 (by unfold Tz.reE1;rw [if_neg h1]) h1
   rw [e1,if_neg h1]
   exact Zhk h hz hn o s h1 (Z52 w ho.p rfl)
 have hS1:=Z52 w ho.p h1
 by_cases h2:spE o.q=0
 rotate_left
 · have e1:Z.rnE o=spE o.q:=Z79 (by unfold Tz.reE1;rw [if_pos h1,if_neg h2]) h2
   rw [e1,if_neg h2]
   exact Zhl h hz hn o s h2 hS1 (Z52 w ho.q rfl)
 have hS2:=Z52 w ho.q h2
 by_cases h3:spN o.p= []
 · have e1:Z.rnE o=51:=Z79 (by unfold Tz.reE1;rw [if_pos h1,if_pos h2,if_pos (.inl h3)]) (by decide)
   rw [e1,if_neg (by decide)]
   exact Zhm h hz hn o s h3 hS1 hS2
 by_cases h4:spN o.q= []
 · have e1:Z.rnE o=51:=Z79 (by unfold Tz.reE1;rw [if_pos h1,if_pos h2,if_pos (.inr h4)]) (by decide)
   rw [e1,if_neg (by decide)]
   exact Zhn h hz hn o s h3 h4 hS1 hS2
 have e1:Z.reE1 o=0:=by unfold Tz.reE1;rw [if_pos h1,if_pos h2,if_neg (fun e=>e.elim h3 h4)]
 by_cases h5:Z.paE o.p 51=0
 rotate_left
 · have e2:Z.rnE o=Z.paE o.p 51:=Z6e (by unfold Tz.reE2;rw [if_pos e1,if_neg h5]) h5
   rw [e2,if_neg h5]
   exact rr_p h hz hn o s h3 h4 h5 hS1 hS2 (Z3f h hz ho.p (by decide))
 obtain⟨p1,p2,p3⟩:=Z1f hz (by decide) h5
 have hdk:(Z.nd (Z.paD o.p)).k≠0:=by rw [p1];decide
 have hP:=Z3g h hz ho.p (by decide) h5
 have hF:=Z3e h (Z18 hz hdk) (lsS o.p)
 by_cases h6:Z.paI o.p=0
 · have e2:Z.rnE o=40:=Z6e (by unfold Tz.reE2;rw [if_pos e1,if_pos h5,if_pos h6]) (by decide)
   rw [e2,if_neg (by decide)]
   rw [show lk (Z.nd (Z.paD o.p)).nm (lsS o.p)=0 from h6]at hF
   exact rr_n h hz hn o s h3 h4 hS1 hS2 hP hF
 rcases p3 with p3 | p3
 · exact absurd p3 h6
 have hi:1≤Z.paI o.p∧(Z.paI o.p).toNat < Z.N.length:=⟨by omega,(Z18 hz p3.2).2⟩
 have hlx:=hz.lx (Z.paI o.p)
 have hIn:∀ v,insB (spN o.p) (spN o.q)=v→∀ w' a1 N1 c1 a2 N2 c2,Sts w' a1 N1 c1 (spN o.p)→Sts w' a2 N2 c2 (spN o.q)→Calls Tryz.prog 77 #[.slice a1 N1 c1, .slice a2 N2 c2] w' fun e u=>e= .returned (.bool v)∧Below w'.heap.size w' u:=fun v hv w' a1 N1 c1 a2 N2 c2 s1 s2=>by
  rw [← hv]
  have:=Z3t o.p
  have:=Z3t o.q
  exact Z8t s1 s2 (by omega) (by omega)
 by_cases h7:insB (spN o.p) (spN o.q)=true∧(Z.nd (Z.paI o.p)).k=2
 · have e2:Z.rnE o=49:=Z6e (by unfold Tz.reE2;rw [if_pos e1,if_pos h5,if_neg h6,if_pos h7]) (by decide)
   rw [e2,if_neg (by decide)]
   exact rr_i h hz hn o s h3 h4 hi h7.2 hS1 hS2 hP hF (hIn true h7.1)
 have e2:Z.reE2 o=Z.paE o.q 51:=by unfold Tz.reE2;rw [if_pos e1,if_pos h5,if_neg h6,if_neg h7]
 have hA:(Z.nd (Z.paI o.p)).k=2→∀ w' a1 N1 c1 a2 N2 c2,Sts w' a1 N1 c1 (spN o.p)→Sts w' a2 N2 c2 (spN o.q)→Calls Tryz.prog 77 #[.slice a1 N1 c1, .slice a2 N2 c2] w' fun e u=>e= .returned (.bool false)∧Below w'.heap.size w' u:=fun hk=>hIn false (by
  cases hv:insB (spN o.p) (spN o.q)with
  | false=>rfl
  | true=>exact absurd ⟨hv,hk⟩ h7)
 by_cases h8:Z.paE o.q 51=0
 rotate_left
 · have e3:Z.rnE o=Z.paE o.q 51:=Z6e e2 h8
   rw [e3,if_neg h8]
   have hQ:=Z3f h hz ho.q (root:=51) (by decide)
   by_cases hk:(Z.nd (Z.paI o.p)).k=2
   · exact Zhi h hz hn o s h3 h4 hi hk h8 hS1 hS2 hP hF (hA hk) hQ
   · exact Zhj h hz hn o s h3 h4 hi (Z1z hz p3.2 hk) h8 hS1 hS2 hP hF hQ
 obtain⟨r1,r2,r3⟩:=Z1f hz (by decide) h8
 have hdq:(Z.nd (Z.paD o.q)).k≠0:=by rw [r1];decide
 have hQ:=Z3g h hz ho.q (by decide) h8
 have hG:=Z3e h (Z18 hz hdq) (lsS o.q)
 by_cases h9:Z.paI o.p=Z.paI o.q
 · have e3:Z.rnE o=0:=by unfold Tz.rnE;rw [e2,if_pos h8,if_pos h9]
   have e4:Z.rnS o=Z:=by unfold Tz.rnS;rw [if_pos h9]
   rw [e3,if_pos rfl,e4]
   rw [show lk (Z.nd (Z.paD o.q)).nm (lsS o.q)=Z.paI o.p from h9.symm]at hG
   by_cases hk:(Z.nd (Z.paI o.p)).k=2
   · exact Zct h hz hn o s h3 h4 hi hk hS1 hS2 hP hF (hA hk) hQ hG
   · exact Zcu h hz hn o s h3 h4 hi (Z1z hz p3.2 hk) hS1 hS2 hP hF hQ hG
 have e3:Z.rnE o=Z.reE3 (Z.paI o.p) (Z.paI o.q):=by unfold Tz.rnE;rw [e2,if_pos h8,if_neg h9]
 have hC:=Zfb h hz hn p1 r1 (lsS o.p) (lsS o.q) (Z.paI o.p)
 have eR:Z.rnE o=0→Z.rnS o=Z.mvR (Z.paD o.p) (lsS o.p) (Z.paI o.p) (Z.paD o.q) (lsS o.q) (Z.paI o.q):=fun e=>by
  unfold Tz.rnS
  rw [if_neg h9]
  exact Zda hz Z2l (Za6 hz e h9)
 rcases r3 with r3 | r3
 · -- what To is:none
   rw [show lk (Z.nd (Z.paD o.q)).nm (lsS o.q)=0 from r3]at hG
   by_cases hl:(Z.nd (Z.paI o.p)).ln=200
   · have e4:Z.rnE o=48:=by rw [e3];unfold Tz.reE3;rw [if_neg (fun e=>e.1 r3),if_neg (fun e=>e.1 r3),if_neg (fun e=>e.1 r3),if_pos hl]
     rw [e4,if_neg (by decide)]
     by_cases hk:(Z.nd (Z.paI o.p)).k=2
     · exact Zeb h hz hn o s h3 h4 hi hk hl hS1 hS2 hP hF (hA hk) hQ hG
     · exact Zed h hz hn o s h3 h4 hi (Z1z hz p3.2 hk) hl hS1 hS2 hP hF hQ hG
   · have e4:Z.rnE o=0:=by rw [e3];unfold Tz.reE3;rw [if_neg (fun e=>e.1 r3),if_neg (fun e=>e.1 r3),if_neg (fun e=>e.1 r3),if_neg hl]
     have e5:=eR e4
     rw [e4,if_pos rfl,e5]
     unfold Tz.mvR
     rw [if_pos r3]
     by_cases hk:(Z.nd (Z.paI o.p)).k=2
     · exact Zec h hz hn o s h3 h4 hi hk (by omega) hlx.1 hS1 hS2 hP hF (hA hk) hQ hG hC.p1 hC.p2 hC.p3
     · exact Zee h hz hn o s h3 h4 hi (Z1z hz p3.2 hk) (by omega) hlx.1 hS1 hS2 hP hF hQ hG hC.p1 hC.p2 hC.p3
 · have hj0:Z.paI o.q≠0:=by omega
   have hj:1≤Z.paI o.q∧(Z.paI o.q).toNat < Z.N.length:=⟨by omega,(Z18 hz r3.2).2⟩
   by_cases hk:(Z.nd (Z.paI o.p)).k=2
   · by_cases hkj:(Z.nd (Z.paI o.q)).k=2
     · by_cases hnm:(Z.nd (Z.paI o.q)).nm= []
       · by_cases hl:(Z.nd (Z.paI o.p)).ln=200
         · have e4:Z.rnE o=48:=by rw [e3];unfold Tz.reE3;rw [if_neg (fun e=>e.2.2 hkj),if_neg (fun e=>e.2.1 hk),if_neg (fun e=>e.2 hnm),if_pos hl]
           rw [e4,if_neg (by decide)]
           exact Z88 h hz hn o s h3 h4 hi hj h9 hk hkj hnm hl hS1 hS2 hP hF (hA hk) hQ hG
         · have e4:Z.rnE o=0:=by rw [e3];unfold Tz.reE3;rw [if_neg (fun e=>e.2.2 hkj),if_neg (fun e=>e.2.1 hk),if_neg (fun e=>e.2 hnm),if_neg hl]
           have e5:=eR e4
           rw [e4,if_pos rfl,e5]
           unfold Tz.mvR
           rw [if_neg hj0]
           exact Z89 h hz hn o s h3 h4 hi hj h9 hk hkj hnm (by omega) hlx.1 hS1 hS2 hP hF (hA hk) hQ hG hC.p1 hC.p2 hC.p3 (hC.ls _ r3.2)
       · have e4:Z.rnE o=44:=by rw [e3];unfold Tz.reE3;rw [if_neg (fun e=>e.2.2 hkj),if_neg (fun e=>e.2.1 hk),if_pos ⟨hj0,hnm⟩]
         rw [e4,if_neg (by decide)]
         exact Zft h hz hn o s h3 h4 hi hj h9 hk hkj hnm hS1 hS2 hP hF (hA hk) hQ hG
     · have e4:Z.rnE o=42:=by rw [e3];unfold Tz.reE3;rw [if_pos ⟨hj0,hk,hkj⟩]
       rw [e4,if_neg (by decide)]
       exact Zfs h hz hn o s h3 h4 hi hj h9 hk (Z1z hz r3.2 hkj) hS1 hS2 hP hF (hA hk) hQ hG
   · have hk1:=Z1z hz p3.2 hk
     by_cases hkj:(Z.nd (Z.paI o.q)).k=2
     · have e4:Z.rnE o=43:=by rw [e3];unfold Tz.reE3;rw [if_neg (fun e=>hk e.2.1),if_pos ⟨hj0,hk,hkj⟩]
       rw [e4,if_neg (by decide)]
       exact Zfu h hz hn o s h3 h4 hi hj h9 hk1 hkj hS1 hS2 hP hF hQ hG
     · have hkj1:=Z1z hz r3.2 hkj
       have hnm:=hz.fi _ hkj1
       by_cases hl:(Z.nd (Z.paI o.p)).ln=200
       · have e4:Z.rnE o=48:=by rw [e3];unfold Tz.reE3;rw [if_neg (fun e=>hk e.2.1),if_neg (fun e=>hkj e.2.2),if_neg (fun e=>e.2 hnm),if_pos hl]
         rw [e4,if_neg (by decide)]
         exact Z8a h hz hn o s h3 h4 hi hj h9 hk1 hkj1 hnm hl hS1 hS2 hP hF hQ hG
       · have e4:Z.rnE o=0:=by rw [e3];unfold Tz.reE3;rw [if_neg (fun e=>hk e.2.1),if_neg (fun e=>hkj e.2.2),if_neg (fun e=>e.2 hnm),if_neg hl]
         have e5:=eR e4
         rw [e4,if_pos rfl,e5]
         unfold Tz.mvR
         rw [if_neg hj0]
         exact Z8b h hz hn o s h3 h4 hi hj h9 hk1 hkj1 hnm (by omega) hlx.1 hS1 hS2 hP hF hQ hG hC.p1 hC.p2 hC.p3 (hC.ls _ r3.2)
end
set_option maxRecDepth 100000
set_option maxHeartbeats 8000000 in
theorem on_e {w:World} {U:Nat→Prop} {y n:Nat} {Z:Tz} (h:Dx w U y Z) (hz:Z.ok n) (hn:n≤900) (o:Oz) (s:Sv) {E i:Int} (hE:E≠0)
 (hW:∀ w',Below w.heap.size w w'→Calls Tryz.prog 21 #[.pointer (some ⟨y,0,none⟩), .string (str o.p)] w' fun e u=>e= .returned (.tuple #[.int .i64 i, .int .i64 E])∧Below w'.heap.size w' u):
 Calls Tryz.prog 34 #[.pointer (some ⟨y,0,none⟩), .agg (opC o s).toArray] w fun e w'=>RetY e U y Z E w w':=by
 have qE:(E != 0)=true:=by simpa using hE
 go_enter Tryz.func34,Tryz.ntmps34
 go_wp2_with (first
  | (refine Z05 (by rfl) _ (by rfl) o s (by rfl) ?_;intro g1 w1 z1 z2 r1 b1
     have Bc:=b1
     have v1:=b1.size
     try clear c10
     try clear c11
     try clear c14
     have c10:=r1.cell 0 _ rfl
     have c11:=r1.cell 1 _ rfl
     have c14:=r1.cell 4 _ rfl)
  | (refine Z02 (by rfl) (by rfl) ?_;intro g2 w2 z3 z4 r2 b2
     replace Bc:=Z00q Bc b2 (Nat.le_refl _)
     have v2:=b2.size
     try (replace r1:=r1.later b2)
     try (replace r2:=r2.later b2)
     try clear c10
     try clear c11
     try clear c14
     have c10:=r1.cell 0 _ rfl
     have c11:=r1.cell 1 _ rfl
     have c14:=r1.cell 4 _ rfl)
  | (go_at_call 21;refine(hW _ Bc).mono ?_;clear hW;rintro e ww ⟨rfl,bw⟩
     replace Bc:=Z00q Bc bw (Nat.le_refl _)
     have vw:=bw.size
     try (replace r1:=r1.later bw)
     try (replace r2:=r2.later bw)
     try clear c10
     try clear c11
     try clear c14
     have c10:=r1.cell 0 _ rfl
     have c11:=r1.cell 1 _ rfl
     have c14:=r1.cell 4 _ rfl)
  | (go_at_call 35;refine(Z0b _ _).mono ?_;rintro e wf ⟨rfl,bf⟩
     replace Bc:=Z00q Bc bf (Nat.le_refl _)
     replace r2:=r2.later bf)
  | (refine Z03 (by rfl) _ _ (by rfl) g2 (by rfl) (anC E 0 nilV nilV 0 0 0) E (Z07 E) (by rfl) _ r2 rfl ?_;intro w9 r9 s9))
 exact bodyPost_ret (Z0a Z06 Tryz.results34 rfl r9 rfl) rfl ⟨anC E 0 nilV nilV 0 0 0,rfl,Z07 E,Z0e h Bc (by omega) s9⟩
set_option maxHeartbeats 8000000 in
theorem Zfh {w:World} {U:Nat→Prop} {y n:Nat} {Z:Tz} (h:Dx w U y Z) (hz:Z.ok n) (hn:n≤900) (o:Oz) (s:Sv) (hk:o.k=12) {i:Int} (hi:1≤i∧i.toNat < Z.N.length)
 (hW:∀ w',Below w.heap.size w w'→Calls Tryz.prog 21 #[.pointer (some ⟨y,0,none⟩), .string (str o.p)] w' fun e u=>e= .returned (.tuple #[.int .i64 i, .int .i64 0])∧Below w'.heap.size w' u):
 Calls Tryz.prog 34 #[.pointer (some ⟨y,0,none⟩), .agg (opC o s).toArray] w fun e w'=>RetY e U y Z 0 w w':=by
 have hU:=h.low
 obtain⟨fb,r,c,A,F,sd,sn,H,hUU⟩:=h
 obtain⟨ki,rfl⟩:∃ ki:Nat,i=(ki:Int):=⟨i.toNat,by omega⟩
 have hik:ki < Z.N.length:=by simpa using hi.2
 have a7:(ki:Int) < (Z.N.length:Int):=by omega
 have a6:(0:Int)≤(ki:Int):=by omega
 go_enter Tryz.func34,Tryz.ntmps34
 go_wp2_with (first
  | (refine Z05 (by rfl) _ (by rfl) o s (by rfl) ?_;intro g1 w1 z1 z2 r1 b1
     have Bc:=b1
     have v1:=b1.size
     try clear c10
     try clear c11
     try clear c14
     have c10:=r1.cell 0 _ rfl
     have c11:=r1.cell 1 _ rfl
     have c14:=r1.cell 4 _ rfl
     try rw [hk]at c10)
  | (refine Z02 (by rfl) (by rfl) ?_;intro g2 w2 z3 z4 r2 b2
     replace Bc:=Z00q Bc b2 (Nat.le_refl _)
     have v2:=b2.size
     try (replace r1:=r1.later b2)
     try (replace r2:=r2.later b2)
     try (replace r3:=r3.later b2)
     try clear c10
     try clear c11
     try clear c14
     have c10:=r1.cell 0 _ rfl
     have c11:=r1.cell 1 _ rfl
     have c14:=r1.cell 4 _ rfl
     try rw [hk]at c10)
  | (go_at_call 21;refine(hW _ Bc).mono ?_;clear hW;rintro e ww ⟨rfl,bw⟩
     replace Bc:=Z00q Bc bw (Nat.le_refl _)
     have vw:=bw.size
     try (replace r1:=r1.later bw)
     try (replace r2:=r2.later bw)
     try (replace r3:=r3.later bw)
     try clear c10
     try clear c11
     try clear c14
     have c10:=r1.cell 0 _ rfl
     have c11:=r1.cell 1 _ rfl
     have c14:=r1.cell 4 _ rfl
     try rw [hk]at c10
     have q0:=(H.later Bc).c0
     have qn:=(H.later Bc).node hik)
  | (refine Z31 (by rfl) _ (by rfl) r (ki * 4) (by rfl) (Z.nd (ki:Int)) (sd ki) (sn ki) qn ?_)
  | (refine Z2g (by rfl) (by rfl) ?_;intro g3 w3 z5 z6 r3 b3
     replace Bc:=Z00q Bc b3 (Nat.le_refl _)
     have v3:=b3.size
     try (replace r1:=r1.later b3)
     try (replace r2:=r2.later b3)
     try (replace r3:=r3.later b3)
     try clear c10
     try clear c11
     try clear c14
     have c10:=r1.cell 0 _ rfl
     have c11:=r1.cell 1 _ rfl
     have c14:=r1.cell 4 _ rfl
     try rw [hk]at c10)
  | (refine Z2h (by rfl) _ _ (by rfl) g3 (by rfl) (Z.nd (ki:Int)) (sd ki) (sn ki) (by rfl) r3 ?_;intro w4 q3 s4
     replace r3:=q3
     have v4:=s4.size
     replace Bc:=((Stp.of_below Bc (fun _=>False)).next s4 (fun y e=> .inr (by omega))).below (Nat.le_refl _) (fun y e=>e.elim)
     try (replace r1:=r1.step s4 (fun e=>by omega))
     try (replace r2:=r2.step s4 (fun e=>by omega))
     try clear c10
     try clear c11
     try clear c14
     have c10:=r1.cell 0 _ rfl
     have c11:=r1.cell 1 _ rfl
     have c14:=r1.cell 4 _ rfl
     try rw [hk]at c10
     try clear d0
     try clear d1
     try clear d2
     try clear d3
     have d0:=r3.cell 0 _ rfl
     have d1:=r3.cell 1 _ rfl
     have d2:=r3.cell 2 _ rfl
     have d3:=r3.cell 3 _ rfl
     try rw [hki]at d0)
  | (refine Z03 (by rfl) _ _ (by rfl) g2 (by rfl) (anC 0 0 nilV nilV (Z.nd (ki:Int)).k ((sd ki).n:Int) (Z.nd (ki:Int)).ln) 0 ⟨_,_,_,_,_,_,rfl,rfl,rfl⟩ (by rfl) _ r2 rfl ?_;intro w9 r9 s9))
 exact bodyPost_ret (Z0a Z06 Tryz.results34 rfl r9 rfl) rfl ⟨_,rfl,⟨_,_,_,_,_,_,rfl,rfl,rfl⟩,(Z0e ⟨fb,r,c,A,F,sd,sn,H,hUU⟩ Bc (by omega) s9)⟩
set_option maxHeartbeats 8000000 in
theorem Zfi {w:World} {U:Nat→Prop} {y n:Nat} {Z:Tz} (h:Dx w U y Z) (hz:Z.ok n) (hn:n≤900) (o:Oz) (s:Sv) (hk:o.k=13) {i:Int} (hi:1≤i∧i.toNat < Z.N.length) (hki:(Z.nd i).k=1)
 (hW:∀ w',Below w.heap.size w w'→Calls Tryz.prog 21 #[.pointer (some ⟨y,0,none⟩), .string (str o.p)] w' fun e u=>e= .returned (.tuple #[.int .i64 i, .int .i64 0])∧Below w'.heap.size w' u):
 Calls Tryz.prog 34 #[.pointer (some ⟨y,0,none⟩), .agg (opC o s).toArray] w fun e w'=>RetY e U y Z 42 w w':=by
 have hU:=h.low
 obtain⟨fb,r,c,A,F,sd,sn,H,hUU⟩:=h
 obtain⟨ki,rfl⟩:∃ ki:Nat,i=(ki:Int):=⟨i.toNat,by omega⟩
 have hik:ki < Z.N.length:=by simpa using hi.2
 have a7:(ki:Int) < (Z.N.length:Int):=by omega
 have a6:(0:Int)≤(ki:Int):=by omega
 go_enter Tryz.func34,Tryz.ntmps34
 go_wp2_with (first
  | (refine Z05 (by rfl) _ (by rfl) o s (by rfl) ?_;intro g1 w1 z1 z2 r1 b1
     have Bc:=b1
     have v1:=b1.size
     try clear c10
     try clear c11
     try clear c14
     have c10:=r1.cell 0 _ rfl
     have c11:=r1.cell 1 _ rfl
     have c14:=r1.cell 4 _ rfl
     try rw [hk]at c10)
  | (refine Z02 (by rfl) (by rfl) ?_;intro g2 w2 z3 z4 r2 b2
     replace Bc:=Z00q Bc b2 (Nat.le_refl _)
     have v2:=b2.size
     try (replace r1:=r1.later b2)
     try (replace r2:=r2.later b2)
     try (replace r3:=r3.later b2)
     try clear c10
     try clear c11
     try clear c14
     have c10:=r1.cell 0 _ rfl
     have c11:=r1.cell 1 _ rfl
     have c14:=r1.cell 4 _ rfl
     try rw [hk]at c10)
  | (go_at_call 21;refine(hW _ Bc).mono ?_;clear hW;rintro e ww ⟨rfl,bw⟩
     replace Bc:=Z00q Bc bw (Nat.le_refl _)
     have vw:=bw.size
     try (replace r1:=r1.later bw)
     try (replace r2:=r2.later bw)
     try (replace r3:=r3.later bw)
     try clear c10
     try clear c11
     try clear c14
     have c10:=r1.cell 0 _ rfl
     have c11:=r1.cell 1 _ rfl
     have c14:=r1.cell 4 _ rfl
     try rw [hk]at c10
     have q0:=(H.later Bc).c0
     have qn:=(H.later Bc).node hik)
  | (refine Z31 (by rfl) _ (by rfl) r (ki * 4) (by rfl) (Z.nd (ki:Int)) (sd ki) (sn ki) qn ?_)
  | (refine Z2g (by rfl) (by rfl) ?_;intro g3 w3 z5 z6 r3 b3
     replace Bc:=Z00q Bc b3 (Nat.le_refl _)
     have v3:=b3.size
     try (replace r1:=r1.later b3)
     try (replace r2:=r2.later b3)
     try (replace r3:=r3.later b3)
     try clear c10
     try clear c11
     try clear c14
     have c10:=r1.cell 0 _ rfl
     have c11:=r1.cell 1 _ rfl
     have c14:=r1.cell 4 _ rfl
     try rw [hk]at c10)
  | (refine Z2h (by rfl) _ _ (by rfl) g3 (by rfl) (Z.nd (ki:Int)) (sd ki) (sn ki) (by rfl) r3 ?_;intro w4 q3 s4
     replace r3:=q3
     have v4:=s4.size
     replace Bc:=((Stp.of_below Bc (fun _=>False)).next s4 (fun y e=> .inr (by omega))).below (Nat.le_refl _) (fun y e=>e.elim)
     try (replace r1:=r1.step s4 (fun e=>by omega))
     try (replace r2:=r2.step s4 (fun e=>by omega))
     try clear c10
     try clear c11
     try clear c14
     have c10:=r1.cell 0 _ rfl
     have c11:=r1.cell 1 _ rfl
     have c14:=r1.cell 4 _ rfl
     try rw [hk]at c10
     try clear d0
     try clear d1
     try clear d2
     try clear d3
     have d0:=r3.cell 0 _ rfl
     have d1:=r3.cell 1 _ rfl
     have d2:=r3.cell 2 _ rfl
     have d3:=r3.cell 3 _ rfl
     try rw [hki]at d0)
  | (go_at_call 35;refine(Z0b _ _).mono ?_;rintro e wf ⟨rfl,bf⟩
     replace Bc:=Z00q Bc bf (Nat.le_refl _)
     replace r2:=r2.later bf)
  | (refine Z03 (by rfl) _ _ (by rfl) g2 (by rfl) (anC 42 0 nilV nilV 0 0 0) 42 (Z07 42) (by rfl) _ r2 rfl ?_;intro w9 r9 s9))
 exact bodyPost_ret (Z0a Z06 Tryz.results34 rfl r9 rfl) rfl ⟨anC 42 0 nilV nilV 0 0 0,rfl,Z07 42,(Z0e ⟨fb,r,c,A,F,sd,sn,H,hUU⟩ Bc (by omega) s9)⟩
set_option maxHeartbeats 8000000 in
theorem Zh8 {w:World} {U:Nat→Prop} {y n:Nat} {Z:Tz} (h:Dx w U y Z) (hz:Z.ok n) (hn:n≤900) (o:Oz) (s:Sv) (hk:o.k=6) {i:Int} (hi:1≤i∧i.toNat < Z.N.length) (hki:(Z.nd i).k=2)
 (hW:∀ w',Below w.heap.size w w'→Calls Tryz.prog 21 #[.pointer (some ⟨y,0,none⟩), .string (str o.p)] w' fun e u=>e= .returned (.tuple #[.int .i64 i, .int .i64 0])∧Below w'.heap.size w' u):
 Calls Tryz.prog 34 #[.pointer (some ⟨y,0,none⟩), .agg (opC o s).toArray] w fun e w'=>RetY e U y Z 43 w w':=by
 have hU:=h.low
 obtain⟨fb,r,c,A,F,sd,sn,H,hUU⟩:=h
 obtain⟨ki,rfl⟩:∃ ki:Nat,i=(ki:Int):=⟨i.toNat,by omega⟩
 have hik:ki < Z.N.length:=by simpa using hi.2
 have a7:(ki:Int) < (Z.N.length:Int):=by omega
 have a6:(0:Int)≤(ki:Int):=by omega
 go_enter Tryz.func34,Tryz.ntmps34
 go_wp2_with (first
  | (refine Z05 (by rfl) _ (by rfl) o s (by rfl) ?_;intro g1 w1 z1 z2 r1 b1
     have Bc:=b1
     have v1:=b1.size
     try clear c10
     try clear c11
     try clear c14
     have c10:=r1.cell 0 _ rfl
     have c11:=r1.cell 1 _ rfl
     have c14:=r1.cell 4 _ rfl
     try rw [hk]at c10)
  | (refine Z02 (by rfl) (by rfl) ?_;intro g2 w2 z3 z4 r2 b2
     replace Bc:=Z00q Bc b2 (Nat.le_refl _)
     have v2:=b2.size
     try (replace r1:=r1.later b2)
     try (replace r2:=r2.later b2)
     try (replace r3:=r3.later b2)
     try clear c10
     try clear c11
     try clear c14
     have c10:=r1.cell 0 _ rfl
     have c11:=r1.cell 1 _ rfl
     have c14:=r1.cell 4 _ rfl
     try rw [hk]at c10)
  | (go_at_call 21;refine(hW _ Bc).mono ?_;clear hW;rintro e ww ⟨rfl,bw⟩
     replace Bc:=Z00q Bc bw (Nat.le_refl _)
     have vw:=bw.size
     try (replace r1:=r1.later bw)
     try (replace r2:=r2.later bw)
     try (replace r3:=r3.later bw)
     try clear c10
     try clear c11
     try clear c14
     have c10:=r1.cell 0 _ rfl
     have c11:=r1.cell 1 _ rfl
     have c14:=r1.cell 4 _ rfl
     try rw [hk]at c10
     have q0:=(H.later Bc).c0
     have qn:=(H.later Bc).node hik)
  | (refine Z31 (by rfl) _ (by rfl) r (ki * 4) (by rfl) (Z.nd (ki:Int)) (sd ki) (sn ki) qn ?_)
  | (refine Z2g (by rfl) (by rfl) ?_;intro g3 w3 z5 z6 r3 b3
     replace Bc:=Z00q Bc b3 (Nat.le_refl _)
     have v3:=b3.size
     try (replace r1:=r1.later b3)
     try (replace r2:=r2.later b3)
     try (replace r3:=r3.later b3)
     try clear c10
     try clear c11
     try clear c14
     have c10:=r1.cell 0 _ rfl
     have c11:=r1.cell 1 _ rfl
     have c14:=r1.cell 4 _ rfl
     try rw [hk]at c10)
  | (refine Z2h (by rfl) _ _ (by rfl) g3 (by rfl) (Z.nd (ki:Int)) (sd ki) (sn ki) (by rfl) r3 ?_;intro w4 q3 s4
     replace r3:=q3
     have v4:=s4.size
     replace Bc:=((Stp.of_below Bc (fun _=>False)).next s4 (fun y e=> .inr (by omega))).below (Nat.le_refl _) (fun y e=>e.elim)
     try (replace r1:=r1.step s4 (fun e=>by omega))
     try (replace r2:=r2.step s4 (fun e=>by omega))
     try clear c10
     try clear c11
     try clear c14
     have c10:=r1.cell 0 _ rfl
     have c11:=r1.cell 1 _ rfl
     have c14:=r1.cell 4 _ rfl
     try rw [hk]at c10
     try clear d0
     try clear d1
     try clear d2
     try clear d3
     have d0:=r3.cell 0 _ rfl
     have d1:=r3.cell 1 _ rfl
     have d2:=r3.cell 2 _ rfl
     have d3:=r3.cell 3 _ rfl
     try rw [hki]at d0)
  | (go_at_call 35;refine(Z0b _ _).mono ?_;rintro e wf ⟨rfl,bf⟩
     replace Bc:=Z00q Bc bf (Nat.le_refl _)
     replace r2:=r2.later bf)
  | (refine Z03 (by rfl) _ _ (by rfl) g2 (by rfl) (anC 43 0 nilV nilV 0 0 0) 43 (Z07 43) (by rfl) _ r2 rfl ?_;intro w9 r9 s9))
 exact bodyPost_ret (Z0a Z06 Tryz.results34 rfl r9 rfl) rfl ⟨anC 43 0 nilV nilV 0 0 0,rfl,Z07 43,(Z0e ⟨fb,r,c,A,F,sd,sn,H,hUU⟩ Bc (by omega) s9)⟩
set_option maxHeartbeats 8000000 in
theorem Zh7 {w:World} {U:Nat→Prop} {y n:Nat} {Z:Tz} (h:Dx w U y Z) (hz:Z.ok n) (hn:n≤900) (o:Oz) (s:Sv) (hk:o.k=6) {i:Int} (hi:1≤i∧i.toNat < Z.N.length) (hki:(Z.nd i).k=1) (hN:o.n < 0)
 (hW:∀ w',Below w.heap.size w w'→Calls Tryz.prog 21 #[.pointer (some ⟨y,0,none⟩), .string (str o.p)] w' fun e u=>e= .returned (.tuple #[.int .i64 i, .int .i64 0])∧Below w'.heap.size w' u):
 Calls Tryz.prog 34 #[.pointer (some ⟨y,0,none⟩), .agg (opC o s).toArray] w fun e w'=>RetY e U y Z 2 w w':=by
 have hU:=h.low
 obtain⟨fb,r,c,A,F,sd,sn,H,hUU⟩:=h
 obtain⟨ki,rfl⟩:∃ ki:Nat,i=(ki:Int):=⟨i.toNat,by omega⟩
 have hik:ki < Z.N.length:=by simpa using hi.2
 have a7:(ki:Int) < (Z.N.length:Int):=by omega
 have a6:(0:Int)≤(ki:Int):=by omega
 go_enter Tryz.func34,Tryz.ntmps34
 go_wp2_with (first
  | (refine Z05 (by rfl) _ (by rfl) o s (by rfl) ?_;intro g1 w1 z1 z2 r1 b1
     have Bc:=b1
     have v1:=b1.size
     try clear c10
     try clear c11
     try clear c14
     have c10:=r1.cell 0 _ rfl
     have c11:=r1.cell 1 _ rfl
     have c14:=r1.cell 4 _ rfl
     try rw [hk]at c10)
  | (refine Z02 (by rfl) (by rfl) ?_;intro g2 w2 z3 z4 r2 b2
     replace Bc:=Z00q Bc b2 (Nat.le_refl _)
     have v2:=b2.size
     try (replace r1:=r1.later b2)
     try (replace r2:=r2.later b2)
     try (replace r3:=r3.later b2)
     try clear c10
     try clear c11
     try clear c14
     have c10:=r1.cell 0 _ rfl
     have c11:=r1.cell 1 _ rfl
     have c14:=r1.cell 4 _ rfl
     try rw [hk]at c10)
  | (go_at_call 21;refine(hW _ Bc).mono ?_;clear hW;rintro e ww ⟨rfl,bw⟩
     replace Bc:=Z00q Bc bw (Nat.le_refl _)
     have vw:=bw.size
     try (replace r1:=r1.later bw)
     try (replace r2:=r2.later bw)
     try (replace r3:=r3.later bw)
     try clear c10
     try clear c11
     try clear c14
     have c10:=r1.cell 0 _ rfl
     have c11:=r1.cell 1 _ rfl
     have c14:=r1.cell 4 _ rfl
     try rw [hk]at c10
     have q0:=(H.later Bc).c0
     have qn:=(H.later Bc).node hik)
  | (refine Z31 (by rfl) _ (by rfl) r (ki * 4) (by rfl) (Z.nd (ki:Int)) (sd ki) (sn ki) qn ?_)
  | (refine Z2g (by rfl) (by rfl) ?_;intro g3 w3 z5 z6 r3 b3
     replace Bc:=Z00q Bc b3 (Nat.le_refl _)
     have v3:=b3.size
     try (replace r1:=r1.later b3)
     try (replace r2:=r2.later b3)
     try (replace r3:=r3.later b3)
     try clear c10
     try clear c11
     try clear c14
     have c10:=r1.cell 0 _ rfl
     have c11:=r1.cell 1 _ rfl
     have c14:=r1.cell 4 _ rfl
     try rw [hk]at c10)
  | (refine Z2h (by rfl) _ _ (by rfl) g3 (by rfl) (Z.nd (ki:Int)) (sd ki) (sn ki) (by rfl) r3 ?_;intro w4 q3 s4
     replace r3:=q3
     have v4:=s4.size
     replace Bc:=((Stp.of_below Bc (fun _=>False)).next s4 (fun y e=> .inr (by omega))).below (Nat.le_refl _) (fun y e=>e.elim)
     try (replace r1:=r1.step s4 (fun e=>by omega))
     try (replace r2:=r2.step s4 (fun e=>by omega))
     try clear c10
     try clear c11
     try clear c14
     have c10:=r1.cell 0 _ rfl
     have c11:=r1.cell 1 _ rfl
     have c14:=r1.cell 4 _ rfl
     try rw [hk]at c10
     try clear d0
     try clear d1
     try clear d2
     try clear d3
     have d0:=r3.cell 0 _ rfl
     have d1:=r3.cell 1 _ rfl
     have d2:=r3.cell 2 _ rfl
     have d3:=r3.cell 3 _ rfl
     try rw [hki]at d0)
  | (go_at_call 35;refine(Z0b _ _).mono ?_;rintro e wf ⟨rfl,bf⟩
     replace Bc:=Z00q Bc bf (Nat.le_refl _)
     replace r2:=r2.later bf)
  | (refine Z03 (by rfl) _ _ (by rfl) g2 (by rfl) (anC 2 0 nilV nilV 0 0 0) 2 (Z07 2) (by rfl) _ r2 rfl ?_;intro w9 r9 s9))
 exact bodyPost_ret (Z0a Z06 Tryz.results34 rfl r9 rfl) rfl ⟨anC 2 0 nilV nilV 0 0 0,rfl,Z07 2,(Z0e ⟨fb,r,c,A,F,sd,sn,H,hUU⟩ Bc (by omega) s9)⟩
set_option maxHeartbeats 8000000 in
theorem Zfk {w:World} {U:Nat→Prop} {y n:Nat} {Z:Tz} (h:Dx w U y Z) (hz:Z.ok n) (hn:n≤900) (o:Oz) (s:Sv) (hk:o.k=6) {i:Int} (hi:1≤i∧i.toNat < Z.N.length) (hki:(Z.nd i).k=1) (hN:48640 < o.n)
 (hW:∀ w',Below w.heap.size w w'→Calls Tryz.prog 21 #[.pointer (some ⟨y,0,none⟩), .string (str o.p)] w' fun e u=>e= .returned (.tuple #[.int .i64 i, .int .i64 0])∧Below w'.heap.size w' u):
 Calls Tryz.prog 34 #[.pointer (some ⟨y,0,none⟩), .agg (opC o s).toArray] w fun e w'=>RetY e U y Z 31 w w':=by
 have hU:=h.low
 obtain⟨fb,r,c,A,F,sd,sn,H,hUU⟩:=h
 obtain⟨ki,rfl⟩:∃ ki:Nat,i=(ki:Int):=⟨i.toNat,by omega⟩
 have hik:ki < Z.N.length:=by simpa using hi.2
 have a7:(ki:Int) < (Z.N.length:Int):=by omega
 have a6:(0:Int)≤(ki:Int):=by omega
 have hN2:¬o.n < 0:=by omega
 go_enter Tryz.func34,Tryz.ntmps34
 go_wp2_with (first
  | (refine Z05 (by rfl) _ (by rfl) o s (by rfl) ?_;intro g1 w1 z1 z2 r1 b1
     have Bc:=b1
     have v1:=b1.size
     try clear c10
     try clear c11
     try clear c14
     have c10:=r1.cell 0 _ rfl
     have c11:=r1.cell 1 _ rfl
     have c14:=r1.cell 4 _ rfl
     try rw [hk]at c10)
  | (refine Z02 (by rfl) (by rfl) ?_;intro g2 w2 z3 z4 r2 b2
     replace Bc:=Z00q Bc b2 (Nat.le_refl _)
     have v2:=b2.size
     try (replace r1:=r1.later b2)
     try (replace r2:=r2.later b2)
     try (replace r3:=r3.later b2)
     try clear c10
     try clear c11
     try clear c14
     have c10:=r1.cell 0 _ rfl
     have c11:=r1.cell 1 _ rfl
     have c14:=r1.cell 4 _ rfl
     try rw [hk]at c10)
  | (go_at_call 21;refine(hW _ Bc).mono ?_;clear hW;rintro e ww ⟨rfl,bw⟩
     replace Bc:=Z00q Bc bw (Nat.le_refl _)
     have vw:=bw.size
     try (replace r1:=r1.later bw)
     try (replace r2:=r2.later bw)
     try (replace r3:=r3.later bw)
     try clear c10
     try clear c11
     try clear c14
     have c10:=r1.cell 0 _ rfl
     have c11:=r1.cell 1 _ rfl
     have c14:=r1.cell 4 _ rfl
     try rw [hk]at c10
     have q0:=(H.later Bc).c0
     have qn:=(H.later Bc).node hik)
  | (refine Z31 (by rfl) _ (by rfl) r (ki * 4) (by rfl) (Z.nd (ki:Int)) (sd ki) (sn ki) qn ?_)
  | (refine Z2g (by rfl) (by rfl) ?_;intro g3 w3 z5 z6 r3 b3
     replace Bc:=Z00q Bc b3 (Nat.le_refl _)
     have v3:=b3.size
     try (replace r1:=r1.later b3)
     try (replace r2:=r2.later b3)
     try (replace r3:=r3.later b3)
     try clear c10
     try clear c11
     try clear c14
     have c10:=r1.cell 0 _ rfl
     have c11:=r1.cell 1 _ rfl
     have c14:=r1.cell 4 _ rfl
     try rw [hk]at c10)
  | (refine Z2h (by rfl) _ _ (by rfl) g3 (by rfl) (Z.nd (ki:Int)) (sd ki) (sn ki) (by rfl) r3 ?_;intro w4 q3 s4
     replace r3:=q3
     have v4:=s4.size
     replace Bc:=((Stp.of_below Bc (fun _=>False)).next s4 (fun y e=> .inr (by omega))).below (Nat.le_refl _) (fun y e=>e.elim)
     try (replace r1:=r1.step s4 (fun e=>by omega))
     try (replace r2:=r2.step s4 (fun e=>by omega))
     try clear c10
     try clear c11
     try clear c14
     have c10:=r1.cell 0 _ rfl
     have c11:=r1.cell 1 _ rfl
     have c14:=r1.cell 4 _ rfl
     try rw [hk]at c10
     try clear d0
     try clear d1
     try clear d2
     try clear d3
     have d0:=r3.cell 0 _ rfl
     have d1:=r3.cell 1 _ rfl
     have d2:=r3.cell 2 _ rfl
     have d3:=r3.cell 3 _ rfl
     try rw [hki]at d0)
  | (go_at_call 35;refine(Z0b _ _).mono ?_;rintro e wf ⟨rfl,bf⟩
     replace Bc:=Z00q Bc bf (Nat.le_refl _)
     replace r2:=r2.later bf)
  | (refine Z03 (by rfl) _ _ (by rfl) g2 (by rfl) (anC 31 0 nilV nilV 0 0 0) 31 (Z07 31) (by rfl) _ r2 rfl ?_;intro w9 r9 s9))
 exact bodyPost_ret (Z0a Z06 Tryz.results34 rfl r9 rfl) rfl ⟨anC 31 0 nilV nilV 0 0 0,rfl,Z07 31,(Z0e ⟨fb,r,c,A,F,sd,sn,H,hUU⟩ Bc (by omega) s9)⟩
set_option maxHeartbeats 8000000 in
theorem Zh9 {w:World} {U:Nat→Prop} {y n:Nat} {Z:Tz} (h:Dx w U y Z) (hz:Z.ok n) (hn:n≤900) (o:Oz) (s:Sv) (hk:o.k=6) {i:Int} (hi:1≤i∧i.toNat < Z.N.length) (hki:(Z.nd i).k=1) (hdl:(Z.nd i).d.length≤48640) (hdb:∀ b ∈ (Z.nd i).d,0≤b∧b≤255) {N:Nat} (hN:o.n=(N:Int)) (hN2:N≤48640)
 (hW:∀ w',Below w.heap.size w w'→Calls Tryz.prog 21 #[.pointer (some ⟨y,0,none⟩), .string (str o.p)] w' fun e u=>e= .returned (.tuple #[.int .i64 i, .int .i64 0])∧Below w'.heap.size w' u):
 Calls Tryz.prog 34 #[.pointer (some ⟨y,0,none⟩), .agg (opC o s).toArray] w fun e w'=>RetY e U y (Z.dat i (ctB' (Z.nd i).d N)) 0 w w':=by
 have hU:=h.low
 obtain⟨fb,r,c,A,F,sd,sn,H,hUU⟩:=h
 obtain⟨ki,rfl⟩:∃ ki:Nat,i=(ki:Int):=⟨i.toNat,by omega⟩
 have hik:ki < Z.N.length:=by simpa using hi.2
 have a7:(ki:Int) < (Z.N.length:Int):=by omega
 have a6:(0:Int)≤(ki:Int):=by omega
 have hN3:¬(N:Int) < 0:=by omega
 have hN4:¬(48640:Int) < (N:Int):=by omega
 go_enter Tryz.func34,Tryz.ntmps34
 go_upto_region 22 with(first
  | (refine Z05 (by rfl) _ (by rfl) o s (by rfl) ?_;intro g1 w1 z1 z2 r1 b1
     have Bc:=b1
     have v1:=b1.size
     try clear c10
     try clear c11
     try clear c14
     have c10:=r1.cell 0 _ rfl
     have c11:=r1.cell 1 _ rfl
     have c14:=r1.cell 4 _ rfl
     try rw [hk]at c10)
  | (refine Z02 (by rfl) (by rfl) ?_;intro g2 w2 z3 z4 r2 b2
     replace Bc:=Z00q Bc b2 (Nat.le_refl _)
     have v2:=b2.size
     try (replace r1:=r1.later b2)
     try (replace r2:=r2.later b2)
     try (replace r3:=r3.later b2)
     try clear c10
     try clear c11
     try clear c14
     have c10:=r1.cell 0 _ rfl
     have c11:=r1.cell 1 _ rfl
     have c14:=r1.cell 4 _ rfl
     try rw [hk]at c10)
  | (go_at_call 21;refine(hW _ Bc).mono ?_;clear hW;rintro e ww ⟨rfl,bw⟩
     replace Bc:=Z00q Bc bw (Nat.le_refl _)
     have vw:=bw.size
     try (replace r1:=r1.later bw)
     try (replace r2:=r2.later bw)
     try (replace r3:=r3.later bw)
     try clear c10
     try clear c11
     try clear c14
     have c10:=r1.cell 0 _ rfl
     have c11:=r1.cell 1 _ rfl
     have c14:=r1.cell 4 _ rfl
     try rw [hk]at c10
     have q0:=(H.later Bc).c0
     have qn:=(H.later Bc).node hik)
  | (refine Z31 (by rfl) _ (by rfl) r (ki * 4) (by rfl) (Z.nd (ki:Int)) (sd ki) (sn ki) qn ?_)
  | (refine Z2g (by rfl) (by rfl) ?_;intro g3 w3 z5 z6 r3 b3
     replace Bc:=Z00q Bc b3 (Nat.le_refl _)
     have v3:=b3.size
     try (replace r1:=r1.later b3)
     try (replace r2:=r2.later b3)
     try (replace r3:=r3.later b3)
     try clear c10
     try clear c11
     try clear c14
     have c10:=r1.cell 0 _ rfl
     have c11:=r1.cell 1 _ rfl
     have c14:=r1.cell 4 _ rfl
     try rw [hk]at c10)
  | (refine Z2h (by rfl) _ _ (by rfl) g3 (by rfl) (Z.nd (ki:Int)) (sd ki) (sn ki) (by rfl) r3 ?_;intro w4 q3 s4
     replace r3:=q3
     have v4:=s4.size
     replace Bc:=((Stp.of_below Bc (fun _=>False)).next s4 (fun y e=> .inr (by omega))).below (Nat.le_refl _) (fun y e=>e.elim)
     try (replace r1:=r1.step s4 (fun e=>by omega))
     try (replace r2:=r2.step s4 (fun e=>by omega))
     try clear c10
     try clear c11
     try clear c14
     have c10:=r1.cell 0 _ rfl
     have c11:=r1.cell 1 _ rfl
     have c14:=r1.cell 4 _ rfl
     try rw [hk]at c10
     try clear d0
     try clear d1
     try clear d2
     try clear d3
     have d0:=r3.cell 0 _ rfl
     have d1:=r3.cell 1 _ rfl
     have d2:=r3.cell 2 _ rfl
     have d3:=r3.cell 3 _ rfl
     try rw [hki]at d0))
 have Hc:=H.later Bc
 have rc:=r3
 have r1c:=r1
 have hr3:=r3.lt
 refine Z0p (S:=fun u=>Below w4.heap.size w4 u) _ _ (by simp only [List.pop_toArray,List.dropLast_cons_cons,List.dropLast_singleton];rfl) (by simp only [List.back?_toArray,List.getLast?_cons_cons,List.getLast?_singleton];rfl) (by kernel_rfl) (by kernel_rfl) (Below.refl _ _).drew (fun hHeld=>?_)
 refine tl 0 (.pointer (some ⟨y,0,none⟩)) rfl ?_
 try simp only [z]
 refine tl 1 (.pointer (some ⟨y,0,none⟩)) rfl ?_
 try simp only [z]
 refine tl 2 (.pointer (some ⟨y,0,none⟩)) rfl ?_
 try simp only [z]
 refine tl 3 (.slice (some ⟨r,0,none⟩) Z.N.length c) rfl ?_ (fun u hu=>by have x1:=(Hc.later hu).c0;go_simp)
 try simp only [z]
 refine tl 4 (.int .i64 (ki:Int)) rfl ?_
 try simp only [z]
 refine tl 5 (.pointer (some ⟨g3,2,none⟩)) rfl ?_
 try simp only [z]
 refine tl 6 (.slice (sd ki).a (sd ki).n (sd ki).c) rfl ?_ (fun u hu=>by have x1:=(rc.later hu).cell 2 _ rfl;go_simp)
 try simp only [z]
 refine tl 7 (.pointer (some ⟨g1,4,none⟩)) rfl ?_
 try simp only [z]
 refine tl 8 (.int .i64 (N:Int)) rfl ?_ (fun u hu=>by have x1:=(r1c.later hu).cell 4 _ rfl;rw [hN]at x1;go_simp)
 try simp only [z]
 refine rd 9 rfl (fun K hK=>?_)
 go_simp
 refine(Z86 ((Hc.later hHeld).dt ki hik).1 hdl N hN2).mono ?_
 rintro e wS ⟨v,rfl,oS,bS⟩
 try go_wp2_with fail
 refine hK.out _ _ (Z00q hHeld bS (Nat.le_refl _)) (fun hHeld=>?_)
 clear hK K
 try simp only [z]
 refine tl 10 (.pointer (some ⟨r,ki * 4,none⟩)) rfl ?_
 try simp only [z]
 refine tl 11 (.pointer (some ⟨r,ki * 4+2,none⟩)) rfl ?_
 try simp only [z]
 refine wpAnyH_done (by kernel_rfl) ?_ _
 obtain⟨sv,rfl,hs1,hs2,hs3⟩:=Za7 oS.1 (Z3j hdb N) oS.2
 have HS:=H.later (Z00q Bc hHeld (Nat.le_refl _))
 have r2S:=r2.later hHeld
 have f2:=HS.row.frozen (ki * 4+2)
 have e2:=HS.ndt hik
 have BS:=Z00q Bc hHeld (Nat.le_refl _)
 have lr:=H.row.lt
 have ly:=H.tr.lt
 have lf:=H.fd.lt
 have zD:w4.drew.heap.size=w4.heap.size:=rfl
 have zS:=hHeld.size
 have zB:=Bc.size
 have H2:=HS.more (A':=fun x=>A x∨(w4.drew.heap.size≤x∧x < wS.heap.size)) (fun x e=> .inl e) (fun x e=>by
  rcases e with e | e
  · obtain⟨q1,q2,q3,q4⟩:=H.nA x e;exact⟨q1,q2,q3,by omega⟩
  · exact⟨by omega,by omega,by omega,e.2⟩)
 have H3:=H2.set2 hik (s:=sv) (d:=ctB' (Z.nd (ki:Int)).d N) ⟨hs2,hs3.mono (fun x e=> .inr e)⟩
 have s3:Stp U wS (wS.setCell ⟨r,ki * 4+2,none⟩ sv.v):=(Stp.refl U wS).setCell (p:=⟨r,ki * 4+2,none⟩) (.inl ((hUU r).2 (.inr (.inr (.inl rfl))))) _
 have G3:DxG U y (Z.dat (ki:Int) (ctB' (Z.nd (ki:Int)).d N)) w4 (wS.setCell ⟨r,ki * 4+2,none⟩ sv.v):=⟨_,⟨fb,r,c,_,_,_,_,H3,fun x=>Iff.rfl⟩,(Stp.of_below hHeld U).trans s3,fun x hx=>by
  rcases hx with e | e | e | e | e
  · exact .inl ((hUU x).2 (.inl e))
  · exact .inl ((hUU x).2 (.inr (.inl e)))
  · exact .inl ((hUU x).2 (.inr (.inr (.inl e))))
  · exact .inl ((hUU x).2 (.inr (.inr (.inr e))))
  · exact .inr ⟨by omega,by simpa using e.2⟩⟩
 obtain⟨sva,svn,svc⟩:=sv
 have r2T:=r2S.step s3 (fun e=>by have:=hU g2 e;omega)
 show wpList _ _ _ [_] _ _
 go_wp2_with (refine Z03 (by rfl) _ _ (by rfl) g2 (by rfl) anZ 0 Z0c (by rfl) _ r2T rfl ?_;intro w9 r9 s9)
 exact bodyPost_ret (Z0a Z06 Tryz.results34 rfl r9 rfl) rfl ⟨anZ,rfl,Z0c,Z11 hU Bc G3 (by omega) r2.lt s9⟩
set_option maxRecDepth 100000
set_option maxHeartbeats 8000000 in
theorem Zfj {w:World} {U:Nat→Prop} {y n:Nat} {Z:Tz} (h:Dx w U y Z) (hz:Z.ok n) (hn:n≤900) (o:Oz) (s:Sv) (hk:o.k=13) {i:Int} (hi:1≤i∧i.toNat < Z.N.length) (hki:(Z.nd i).k=2) (hnl:(Z.nd i).nm.length≤1000)
 (hW:∀ w',Below w.heap.size w w'→Calls Tryz.prog 21 #[.pointer (some ⟨y,0,none⟩), .string (str o.p)] w' fun e u=>e= .returned (.tuple #[.int .i64 i, .int .i64 0])∧Below w'.heap.size w' u):
 Calls Tryz.prog 34 #[.pointer (some ⟨y,0,none⟩), .agg (opC o s).toArray] w fun e w'=>RetY e U y Z 0 w w':=by
 have hU:=h.low
 obtain⟨fb,r,c,A,F,sd,sn,H,hUU⟩:=h
 obtain⟨ki,rfl⟩:∃ ki:Nat,i=(ki:Int):=⟨i.toNat,by omega⟩
 have hik:ki < Z.N.length:=by simpa using hi.2
 have a7:(ki:Int) < (Z.N.length:Int):=by omega
 have a6:(0:Int)≤(ki:Int):=by omega
 obtain⟨l,hl⟩:∃ l,Hid ((Z.nd (ki:Int)).nm=l):=⟨_,rfl⟩
 have hE:=(H.nm ki hik).1
 rw [Z5d,hl.out]at hE
 rw [hl.out]at hnl
 have hln:=hE.len
 have tk:True:=trivial
 go_enter Tryz.func34,Tryz.ntmps34
 go_wp2_with (first
  | (refine Z05 (by rfl) _ (by rfl) o s (by rfl) ?_;intro g1 w1 z1 z2 r1 b1
     have Bc:=b1
     have v1:=b1.size
     try clear c10
     try clear c11
     try clear c14
     have c10:=r1.cell 0 _ rfl
     have c11:=r1.cell 1 _ rfl
     have c14:=r1.cell 4 _ rfl
     try rw [hk]at c10)
  | (refine Z02 (by rfl) (by rfl) ?_;intro g2 w2 z3 z4 r2 b2
     replace Bc:=Z00q Bc b2 (Nat.le_refl _)
     have v2:=b2.size
     try (replace r1:=r1.later b2)
     try (replace r2:=r2.later b2)
     try (replace r3:=r3.later b2)
     try clear c10
     try clear c11
     try clear c14
     have c10:=r1.cell 0 _ rfl
     have c11:=r1.cell 1 _ rfl
     have c14:=r1.cell 4 _ rfl
     try rw [hk]at c10)
  | (go_at_call 21;refine(hW _ Bc).mono ?_;clear hW;rintro e ww ⟨rfl,bw⟩
     replace Bc:=Z00q Bc bw (Nat.le_refl _)
     have vw:=bw.size
     try (replace r1:=r1.later bw)
     try (replace r2:=r2.later bw)
     try (replace r3:=r3.later bw)
     try clear c10
     try clear c11
     try clear c14
     have c10:=r1.cell 0 _ rfl
     have c11:=r1.cell 1 _ rfl
     have c14:=r1.cell 4 _ rfl
     try rw [hk]at c10
     have q0:=(H.later Bc).c0
     have qn:=(H.later Bc).node hik)
  | (refine Z31 (by rfl) _ (by rfl) r (ki * 4) (by rfl) (Z.nd (ki:Int)) (sd ki) (sn ki) qn ?_)
  | (refine Z2g (by rfl) (by rfl) ?_;intro g3 w3 z5 z6 r3 b3
     replace Bc:=Z00q Bc b3 (Nat.le_refl _)
     have v3:=b3.size
     try (replace r1:=r1.later b3)
     try (replace r2:=r2.later b3)
     try (replace r3:=r3.later b3)
     try clear c10
     try clear c11
     try clear c14
     have c10:=r1.cell 0 _ rfl
     have c11:=r1.cell 1 _ rfl
     have c14:=r1.cell 4 _ rfl
     try rw [hk]at c10)
  | (refine Z2h (by rfl) _ _ (by rfl) g3 (by rfl) (Z.nd (ki:Int)) (sd ki) (sn ki) (by rfl) r3 ?_;intro w4 q3 s4
     replace r3:=q3
     have v4:=s4.size
     replace Bc:=((Stp.of_below Bc (fun _=>False)).next s4 (fun y e=> .inr (by omega))).below (Nat.le_refl _) (fun y e=>e.elim)
     try (replace r1:=r1.step s4 (fun e=>by omega))
     try (replace r2:=r2.step s4 (fun e=>by omega))
     try clear c10
     try clear c11
     try clear c14
     have c10:=r1.cell 0 _ rfl
     have c11:=r1.cell 1 _ rfl
     have c14:=r1.cell 4 _ rfl
     try rw [hk]at c10
     try clear d0
     try clear d1
     try clear d2
     try clear d3
     have d0:=r3.cell 0 _ rfl
     have d1:=r3.cell 1 _ rfl
     have d2:=r3.cell 2 _ rfl
     have d3:=r3.cell 3 _ rfl
     try rw [hki]at d0)
  | (refine Z8z (B:=w4.heap.size) (by rfl) (by rfl) (Nat.le_refl _) ?_;clear tk;intro g5 w5 o5 b5))
 have hr3:=r3.lt
 have W4:∃ b,w4=b:=⟨_,rfl⟩
 go_loopw [8,9] (fun ov iv wr=>∃ (i:Nat) (L:List (List UInt8)),iv= .int .i64 (i:Int)∧i≤l.length∧L.length≤i∧OwT w4.heap.size wr ov L∧Below w4.heap.size w4 wr) (fun _ iv _=>l.length - (intOf iv).toNat)
 case atStart=>exact⟨0, [],rfl,Nat.zero_le _,Nat.le_refl _,o5,b5⟩
 case round=>
  obtain⟨i,L,rfl,hi',hL,hO,hB⟩:=hrel
  have rr:=r3.later hB
  clear d0 d1 d2 d3 q0 qn
  have d3:=rr.cell 3 _ rfl
  have Bz:=Z00q Bc hB (Nat.le_refl _)
  have hEr:=(hE.later Bz)
  by_cases hlt:i < l.length
  · obtain⟨b,hab,hcs⟩:=hEr.cell (by omega)
    have k2:=(hcs i (by omega)).2
    generalize l.getD i Ent.zero=x at *
    rw [hab]at d3
    have a9:(i:Int) < ((sn ki).n:Int):=by omega
    have a8:(0:Int)≤(i:Int):=by omega
    clear hcs
    go_wp2_with (first
     | (refine Z65 (by rfl) _ (by rfl) x.s (by rfl) ?_;intro g6 w6 z6' S6 b6
        have o6:=hO.later b6
        have B6:=Z00q hB b6 (Nat.le_refl _)
        have B6w:=Z00q Bz b6 (Nat.le_refl _))
     | (refine Z5g w4.heap.size rfl _ _ (by rfl) (by rfl) o6 (some ⟨g6,0,none⟩) 1 1 (by rfl) S6 (by omega) B6.size ?_;intro v7 w7 o7 s7))
    go_roundw
    case rel=>exact⟨i+1,L++ [x.s],by go_num,by omega,by simp;omega,o7,Z2i B6 s7⟩
    case measure=>simp [intOf];omega
  · have a9:¬(i:Int) < ((sn ki).n:Int):=by omega
    obtain⟨va,vc,rfl,hv⟩:=hO.shape
    have r2z:=r2.later hB
    go_wp2_with (refine Z03 (by rfl) _ _ (by rfl) g2 (by rfl) (anC 0 0 nilV (.slice va L.length vc) 0 0 0) 0 ⟨_,_,_,_,_,_,rfl,rfl,rfl⟩ (by rfl) _ r2z rfl ?_;intro w9 r9 s9)
    exact bodyPost_ret (Z0a Z06 Tryz.results34 rfl r9 rfl) rfl ⟨_,rfl,⟨_,_,_,_,_,_,rfl,rfl,rfl⟩,(Z0e ⟨fb,r,c,A,F,sd,sn,H,hUU⟩ Bz (by omega) s9)⟩
end Go.Proofs.YtdnjddpfcgginaaGreat
