/-
  Texts of my own, joined: no statement is proved here.
-/
import Derived.Deep.RegionLaw
import Derived.OpenShut
import Derived.Deep.DeepHandedRow
import Derived.ChangeMaps5
import Derived.SizedLaws
import Derived.Lib.Walk
import Derived.Test.YtdnjddpfcgginaaGreatKaq
set_option linter.unusedSimpArgs false
set_option linter.unusedVariables false
namespace Go.Proofs.YtdnjddpfcgginaaGreat
open Go.ChangeShapes Go.WideShapes Go.ChangeAt Go.RowKit
section
variable {Z : Tz} {m n : Nat} {x : Int → Int}
theorem Z25 {a b:Int} (h:a.toNat=b.toNat):Z.nd a=Z.nd b:=by unfold Tz.nd;rw [h]
theorem Z3o {d i:Int} {s:List UInt8} (hd:d.toNat < Z.N.length) (y:Int):((Z.put d s i).nd y).k=(Z.nd y).k∧((Z.put d s i).nd y).ln=(Z.nd y).ln:=by
 rw [Z0v hd]
 split
 · rename_i e;rw [Z25 (Z:=Z) e];exact⟨rfl,rfl⟩
 · exact⟨rfl,rfl⟩
theorem Z83 {d i:Int} {s:List UInt8} (hd:d.toNat < Z.N.length) (y:Int):((Z.put d s i).nd y).nm=if y.toNat=d.toNat then ptL (Z.nd y).nm s i else(Z.nd y).nm:=by
 rw [Z0v hd]
 split
 · rename_i e;rw [Z25 (Z:=Z) e]
 · rfl
theorem Zgx {d i:Int} {s:List UInt8} (hd:d.toNat < Z.N.length) (hi:i.toNat < Z.N.length) (y:Int):((Z.nam d s i).nd y).k=(Z.nd y).k∧((Z.nam d s i).nd y).nm=((Z.put d s i).nd y).nm:=by
 unfold Tz.nam
 rw [Z2a (by rw [Z0h];exact hi)]
 split
 · rename_i e
   rw [Z25 (Z:=Z.put d s i) e]
   refine⟨?_,rfl⟩
   rw [Z25 (Z:=Z) e];exact(Z3o hd i).1
 · exact⟨(Z3o hd y).1,rfl⟩
def Tz.mv1 (Z:Tz) (e:Int) (u:List UInt8) (j:Int):Tz:=if j=0 then Z else Z.un e u j
structure Tz.mvS (Z:Tz) (m n:Nat) (x:Int→Int) (d:Int) (s:List UInt8) (i e:Int) (u:List UInt8) (j:Int):Prop where
 a:(Z.mv1 e u j).okD m n x
 ae:((Z.mv1 e u j).nd e).k=2
 ai:((Z.mv1 e u j).nd i).k≠0
 b:((Z.mv1 e u j).nam e u i).okD m (n+1) x
 bd:(((Z.mv1 e u j).nam e u i).nd d).k=2
 bs:lk (((Z.mv1 e u j).nam e u i).nd d).nm s=i
theorem Zcg (h:Z.okD m n x) (hx:∀ j,2≤j→x j=0) {d i e j:Int} {s u:List UInt8} (H:Z.mvOk d s i e u j):Z.mvS m n x d s i e u j:=by
 obtain⟨n1,n2⟩:=Z9y h H
 have hd0:=h.live (i:=d) (by rw [H.hd];decide)
 have he0:=h.live (i:=e) (by rw [H.he];decide)
 have hik:(Z.nd i).k≠0:=by have:=(Z2n h d (s:=s) (by rw [H.hs];have:=H.i2;omega)).2;rw [H.hs]at this;exact this
 have hi0:=h.live hik
 have hi2:=H.i2
 have hij:=H.ij
 -- the state ahead of the new name
 have A:(Z.mv1 e u j).okD m n x∧(Z.mv1 e u j).N.length=Z.N.length∧((Z.mv1 e u j).nd e).k=2∧lk ((Z.mv1 e u j).nd e).nm u=0∧((Z.mv1 e u j).nd i).k≠0∧((Z.mv1 e u j).nd i).ln < 200∧((Z.mv1 e u j).nd d).k=2∧lk ((Z.mv1 e u j).nd d).nm s=i:=by
  unfold Tz.mv1
  by_cases hj:j=0
  · rw [if_pos hj]
    exact⟨h,rfl,H.he,by rw [H.hu,hj],hik,H.ln,H.hd,H.hs⟩
  · rw [if_neg hj]
    obtain⟨j2,jk,jd,je⟩:=n2 hj
    have hj0:=h.live jk
    have q:=fun(y:Int) (hy:y.toNat≠j.toNat)=>Z7z (Z:=Z) (d:=e) (i:=j) (s:=u) he0.2 hj0.2 hy
    have qe:=q e (by omega)
    have qi:=q i (by omega)
    have qd:=q d (by omega)
    refine⟨Zdc h H.he H.hu j2 hx (.inl (H.je hj)),Zbv,?_,?_,?_,?_,?_,?_⟩
    · rw [qe,(Z3o he0.2 e).1];exact H.he
    · rw [qe,Z83 he0.2 e,if_pos rfl,Z1n (h.so e),if_pos rfl]
    · rw [qi,(Z3o he0.2 i).1];exact hik
    · rw [qi,(Z3o he0.2 i).2];exact H.ln
    · rw [qd,(Z3o he0.2 d).1];exact H.hd
    · rw [qd,Z83 he0.2 d]
      split
      · rename_i w
        have w2:d=e:=by omega
        rw [Z1n (h.so d),if_neg (n1 w2)];exact H.hs
      · exact H.hs
 obtain⟨a1,a2,a3,a4,a5,a6,a7,a8⟩:=A
 have k:=fun y=>Zgx (Z:=Z.mv1 e u j) (d:=e) (i:=i) (s:=u) (by rw [a2];exact he0.2) (by rw [a2];exact hi0.2) y
 refine⟨a1,a3,a5,Zau a1 a3 H.ns a4 hi2 a5 a6,by rw [(k d).1];exact a7,?_⟩
 rw [(k d).2,Z83 (by rw [a2];exact he0.2) d]
 split
 · rename_i w
   have w2:d=e:=by omega
   rw [Z1n (a1.so d),if_neg (n1 w2)];exact a8
 · exact a8
end
set_option maxRecDepth 100000
section
variable {w : World} {U : Nat → Prop} {y n : Nat} {Z : Tz}
theorem Z3f (h:Dx w U y Z) (hz:Z.ok n) {p:List UInt8} (hp:p.length≤5000) {root:Int} (hr:root≠0):
 ∀ w',Below w.heap.size w w'→Calls Tryz.prog 66 #[.pointer (some ⟨y,0,none⟩), .string (str p), .int .i64 root] w' fun e u=>(∃ d t,e= .returned (.tuple #[.int .i64 d, .string t, .int .i64 (Z.paE p root)]))∧Below w'.heap.size w' u:=fun w' b=>
 (Z5r (h.later b) hz p hp root hr).mono (fun e u h=>⟨by obtain⟨d,s,h1,_⟩:=h.1;exact⟨d,s,h1⟩,h.2⟩)
theorem Z3g (h:Dx w U y Z) (hz:Z.ok n) {p:List UInt8} (hp:p.length≤5000) {root:Int} (hr:root≠0) (hE:Z.paE p root=0):
 ∀ w',Below w.heap.size w w'→Calls Tryz.prog 66 #[.pointer (some ⟨y,0,none⟩), .string (str p), .int .i64 root] w' fun e u=>e= .returned (.tuple #[.int .i64 (Z.paD p), .string (str (lsS p)), .int .i64 0])∧Below w'.heap.size w' u:=fun w' b=>
 (Z5r (h.later b) hz p hp root hr).mono (fun e u h=>⟨by obtain⟨d,s,h1,h2⟩:=h.1;obtain⟨rfl,rfl⟩:=h2 hE;rw [h1,hE],h.2⟩)
theorem Z3e (h:Dx w U y Z) {d:Int} (hd:0≤d∧d.toNat < Z.N.length) (t:List UInt8):
 ∀ w',Below w.heap.size w w'→Calls Tryz.prog 67 #[.pointer (some ⟨y,0,none⟩), .int .i64 d, .string (str t)] w' fun e u=>e= .returned (.int .i64 (lk (Z.nd d).nm t))∧w'=u:=fun w' b=>by
 obtain⟨fb,r,c,A,F,sd,sn,H,hUU⟩:=h
 exact Z71 (H.later b) hd t
theorem Z18 (hz:Z.ok n) {i:Int} (hk:(Z.nd i).k≠0):0≤i∧i.toNat < Z.N.length:=by
 have:=hz.live hk;exact⟨by omega,this.2⟩
theorem Z84 (h:Dx w U y Z) (hz:Z.ok n) (hn:n≤900) {d:Int} (hd:(Z.nd d).k≠0) (t:List UInt8) (id:Int):
 ∀ w',Below w.heap.size w w'→Calls Tryz.prog 75 #[.pointer (some ⟨y,0,none⟩), .int .i64 d, .string (str t), .int .i64 id] w' fun e u=>e= .returned (.tuple #[])∧DxG U y (Z.put d t id) w' u:=fun w' b=>
 Z40 (h.later b) (Z18 hz hd) (hz.so d) (by have:=hz.nl d;omega) t id
theorem Z9b (h:Dx w U y Z) (hz:Z.ok n) (hn:n≤900) {d:Int} (hd:(Z.nd d).k≠0) (t:List UInt8) (kd:Int):
 ∀ w',Below w.heap.size w w'→Calls Tryz.prog 68 #[.pointer (some ⟨y,0,none⟩), .int .i64 d, .string (str t), .int .i64 kd] w' fun e u=>e= .returned (.int .i64 Z.top)∧DxG U y (Z.mkN kd d t) w' u:=fun w' b=>
 Zba (h.later b) (by have:=hz.few;omega) (Z18 hz hd) (hz.so d) (by have:=hz.nl d;omega) t kd
theorem Z99 (hz:Z.ok n) {d i:Int} (hd:(Z.nd d).k≠0) (hi:(Z.nd i).k≠0) (t:List UInt8):
 ∀ U' w',Dx w' U' y (Z.put d t 0)→Calls Tryz.prog 76 #[.pointer (some ⟨y,0,none⟩), .int .i64 i] w' fun e u=>e= .returned (.tuple #[])∧DxG U' y (Z.un d t i) w' u:=fun U' w' h=>
 Z73 h ⟨(Z18 hz hi).1,by rw [Z0h];exact(Z18 hz hi).2⟩ (by rw [(Z3o (Z18 hz hd).2 i).2];exact hz.lx i)
theorem Za5 (h:Dx w U y Z) (hz:Z.ok n) (hn:n≤900) (o:Oz) (ho:o.wfo) (s:Sv) (hk:o.k=7):
 Calls Tryz.prog 31 #[.pointer (some ⟨y,0,none⟩), .agg (opC o s).toArray] w fun e w'=>RetY e U y (if Z.mdE o=0 then Z.mdS o else Z) (Z.mdE o) w w':=by
 by_cases h1:Z.paE o.p 41=0
 · obtain⟨p1,p2,p3⟩:=Z1f hz (by decide) h1
   have hdk:(Z.nd (Z.paD o.p)).k≠0:=by rw [p1];decide
   have hP:=Z3g h hz ho.p (by decide) h1
   have hF:=Z3e h (Z18 hz hdk) (lsS o.p)
   by_cases h2:Z.paI o.p=0
   · have e1:Z.mdE o=0:=by unfold Tz.mdE;rw [if_pos h1,if_pos h2]
     rw [e1,if_pos rfl]
     rw [show lk (Z.nd (Z.paD o.p)).nm (lsS o.p)=0 from h2]at hF
     exact Zh0 h hz hn o s hk hP hF (Z9b h hz hn hdk (lsS o.p) 2)
   · have e1:Z.mdE o=41:=by unfold Tz.mdE;rw [if_pos h1,if_neg h2]
     rw [e1,if_neg (by decide)]
     exact Zgz h hz hn o s hk h2 hP hF
 · have e1:Z.mdE o=Z.paE o.p 41:=by unfold Tz.mdE;rw [if_neg h1]
   rw [e1,if_neg h1]
   exact Zgy h hz hn o s hk h1 (Z3f h hz ho.p (by decide))
theorem Za8 (h:Dx w U y Z) (hz:Z.ok n) (hn:n≤900) (o:Oz) (ho:o.wfo) (s:Sv) (hk:o.k=8):
 Calls Tryz.prog 31 #[.pointer (some ⟨y,0,none⟩), .agg (opC o s).toArray] w fun e w'=>RetY e U y (if Z.rmE o=0 then Z.unS o else Z) (Z.rmE o) w w':=by
 by_cases h1:Z.paE o.p 51=0
 · obtain⟨p1,p2,p3⟩:=Z1f hz (by decide) h1
   have hdk:(Z.nd (Z.paD o.p)).k≠0:=by rw [p1];decide
   have hP:=Z3g h hz ho.p (by decide) h1
   have hF:=Z3e h (Z18 hz hdk) (lsS o.p)
   by_cases h2:Z.paI o.p=0
   · have e1:Z.rmE o=40:=by unfold Tz.rmE;rw [if_pos h1,if_pos h2]
     rw [e1,if_neg (by decide)]
     rw [show lk (Z.nd (Z.paD o.p)).nm (lsS o.p)=0 from h2]at hF
     exact Zh4 h hz hn o s hk hP hF
   · rcases p3 with p3 | p3
     · exact absurd p3 h2
     have hi:1≤Z.paI o.p∧(Z.paI o.p).toNat < Z.N.length:=⟨by omega,(Z18 hz p3.2).2⟩
     by_cases h3:(Z.nd (Z.paI o.p)).k=2
     · by_cases h4:(Z.nd (Z.paI o.p)).nm= []
       · have e1:Z.rmE o=0:=by unfold Tz.rmE;rw [if_pos h1,if_neg h2,if_pos h3,if_pos h4]
         rw [e1,if_pos rfl]
         exact Zh5 h hz hn o s hk hi h3 h4 hP hF (Z84 h hz hn hdk (lsS o.p) 0) (Z99 hz hdk p3.2 (lsS o.p))
       · have e1:Z.rmE o=44:=by unfold Tz.rmE;rw [if_pos h1,if_neg h2,if_pos h3,if_neg h4]
         rw [e1,if_neg (by decide)]
         exact Zh3 h hz hn o s hk hi h3 h4 hP hF
     · have e1:Z.rmE o=42:=by unfold Tz.rmE;rw [if_pos h1,if_neg h2,if_neg h3]
       rw [e1,if_neg (by decide)]
       exact Zh2 h hz hn o s hk hi (Z1z hz p3.2 h3) hP hF
 · have e1:Z.rmE o=Z.paE o.p 51:=by unfold Tz.rmE;rw [if_neg h1]
   rw [e1,if_neg h1]
   exact Zh1 h hz hn o s hk h1 (Z3f h hz ho.p (by decide))
theorem Z8v (h:Dx w U y Z) (hz:Z.ok n) (hn:n≤900) (o:Oz) (ho:o.wfo) (s:Sv) (hk:o.k=10):
 Calls Tryz.prog 31 #[.pointer (some ⟨y,0,none⟩), .agg (opC o s).toArray] w fun e w'=>RetY e U y (if Z.ulE o=0 then Z.unS o else Z) (Z.ulE o) w w':=by
 by_cases h1:Z.paE o.p 43=0
 · obtain⟨p1,p2,p3⟩:=Z1f hz (by decide) h1
   have hdk:(Z.nd (Z.paD o.p)).k≠0:=by rw [p1];decide
   have hP:=Z3g h hz ho.p (by decide) h1
   have hF:=Z3e h (Z18 hz hdk) (lsS o.p)
   by_cases h2:Z.paI o.p=0
   · have e1:Z.ulE o=40:=by unfold Tz.ulE;rw [if_pos h1,if_pos h2]
     rw [e1,if_neg (by decide)]
     rw [show lk (Z.nd (Z.paD o.p)).nm (lsS o.p)=0 from h2]at hF
     exact Zff h hz hn o s hk hP hF
   · rcases p3 with p3 | p3
     · exact absurd p3 h2
     have hi:1≤Z.paI o.p∧(Z.paI o.p).toNat < Z.N.length:=⟨by omega,(Z18 hz p3.2).2⟩
     by_cases h3:(Z.nd (Z.paI o.p)).k=2
     · have e1:Z.ulE o=43:=by unfold Tz.ulE;rw [if_pos h1,if_neg h2,if_pos h3]
       rw [e1,if_neg (by decide)]
       exact Zfd h hz hn o s hk hi h3 hP hF
     · have e1:Z.ulE o=0:=by unfold Tz.ulE;rw [if_pos h1,if_neg h2,if_neg h3]
       rw [e1,if_pos rfl]
       exact Zfg h hz hn o s hk hi (Z1z hz p3.2 h3) hP hF (Z84 h hz hn hdk (lsS o.p) 0) (Z99 hz hdk p3.2 (lsS o.p))
 · have e1:Z.ulE o=Z.paE o.p 43:=by unfold Tz.ulE;rw [if_neg h1]
   rw [e1,if_neg h1]
   exact Zfe h hz hn o s hk h1 (Z3f h hz ho.p (by decide))
end
set_option maxRecDepth 100000
set_option maxHeartbeats 8000000 in
theorem lk_e {w:World} {U:Nat→Prop} {y n:Nat} {Z:Tz} (h:Dx w U y Z) (hz:Z.ok n) (hn:n≤900) (o:Oz) (s:Sv) {E i:Int} (hE:E≠0)
 (hW:∀ w',Below w.heap.size w w'→Calls Tryz.prog 21 #[.pointer (some ⟨y,0,none⟩), .string (str o.p)] w' fun e u=>e= .returned (.tuple #[.int .i64 i, .int .i64 E])∧Below w'.heap.size w' u):
 Calls Tryz.prog 32 #[.pointer (some ⟨y,0,none⟩), .agg (opC o s).toArray] w fun e w'=>RetY e U y Z E w w':=by
 have qE:(E != 0)=true:=by simpa using hE
 go_enter Tryz.func32,Tryz.ntmps32
 go_wp2_with (first
  | (refine Z05 (by rfl) _ (by rfl) o s (by rfl) ?_;intro g1 w1 z1 z2 r1 b1
     have Bc:=b1
     have v1:=b1.size
     try clear c11
     try clear c12
     have c11:=r1.cell 1 _ rfl
     have c12:=r1.cell 2 _ rfl)
  | (refine Z02 (by rfl) (by rfl) ?_;intro g2 w2 z3 z4 r2 b2
     replace Bc:=Z00q Bc b2 (Nat.le_refl _)
     have v2:=b2.size
     try (replace r1:=r1.later b2)
     try (replace r2:=r2.later b2)
     try clear c11
     try clear c12
     have c11:=r1.cell 1 _ rfl
     have c12:=r1.cell 2 _ rfl)
  | (go_at_call 21;refine(hW _ Bc).mono ?_;clear hW;rintro e ww ⟨rfl,bw⟩
     replace Bc:=Z00q Bc bw (Nat.le_refl _)
     have vw:=bw.size
     try (replace r1:=r1.later bw)
     try (replace r2:=r2.later bw)
     try clear c11
     try clear c12
     have c11:=r1.cell 1 _ rfl
     have c12:=r1.cell 2 _ rfl)
  | (go_at_call 35;refine(Z0b _ _).mono ?_;rintro e wf ⟨rfl,bf⟩
     replace Bc:=Z00q Bc bf (Nat.le_refl _)
     replace r2:=r2.later bf)
  | (refine Z03 (by rfl) _ _ (by rfl) g2 (by rfl) (anC E 0 nilV nilV 0 0 0) E (Z07 E) (by rfl) _ r2 rfl ?_;intro w9 r9 s9))
 exact bodyPost_ret (Z0a Z06 Tryz.results32 rfl r9 rfl) rfl ⟨anC E 0 nilV nilV 0 0 0,rfl,Z07 E,Z0e h Bc (by omega) s9⟩
set_option maxHeartbeats 8000000 in
theorem lk_d {w:World} {U:Nat→Prop} {y n:Nat} {Z:Tz} (h:Dx w U y Z) (hz:Z.ok n) (hn:n≤900) (o:Oz) (s:Sv) {i:Int} (hi:1≤i∧i.toNat < Z.N.length) (hk2:(Z.nd i).k=2)
 (hW:∀ w',Below w.heap.size w w'→Calls Tryz.prog 21 #[.pointer (some ⟨y,0,none⟩), .string (str o.p)] w' fun e u=>e= .returned (.tuple #[.int .i64 i, .int .i64 0])∧Below w'.heap.size w' u):
 Calls Tryz.prog 32 #[.pointer (some ⟨y,0,none⟩), .agg (opC o s).toArray] w fun e w'=>RetY e U y Z 43 w w':=by
 have hU:=h.low
 obtain⟨fb,r,c,A,F,sd,sn,H,hUU⟩:=h
 obtain⟨ki,rfl⟩:∃ ki:Nat,i=(ki:Int):=⟨i.toNat,by omega⟩
 have hik:ki < Z.N.length:=by simpa using hi.2
 have a7:(ki:Int) < (Z.N.length:Int):=by omega
 have a6:(0:Int)≤(ki:Int):=by omega
 go_enter Tryz.func32,Tryz.ntmps32
 go_wp2_with (first
  | (refine Z05 (by rfl) _ (by rfl) o s (by rfl) ?_;intro g1 w1 z1 z2 r1 b1
     have Bc:=b1
     have v1:=b1.size
     try clear c11
     try clear c12
     have c11:=r1.cell 1 _ rfl
     have c12:=r1.cell 2 _ rfl)
  | (refine Z02 (by rfl) (by rfl) ?_;intro g2 w2 z3 z4 r2 b2
     replace Bc:=Z00q Bc b2 (Nat.le_refl _)
     have v2:=b2.size
     try (replace r1:=r1.later b2)
     try (replace r2:=r2.later b2)
     try clear c11
     try clear c12
     have c11:=r1.cell 1 _ rfl
     have c12:=r1.cell 2 _ rfl)
  | (go_at_call 21;refine(hW _ Bc).mono ?_;clear hW;rintro e ww ⟨rfl,bw⟩
     replace Bc:=Z00q Bc bw (Nat.le_refl _)
     have vw:=bw.size
     try (replace r1:=r1.later bw)
     try (replace r2:=r2.later bw)
     try clear c11
     try clear c12
     have c11:=r1.cell 1 _ rfl
     have c12:=r1.cell 2 _ rfl
     have q0:=(H.later Bc).c0
     have qk:=(H.later Bc).nk hik
     rw [hk2]at qk)
  | (go_at_call 35;refine(Z0b _ _).mono ?_;rintro e wf ⟨rfl,bf⟩
     replace Bc:=Z00q Bc bf (Nat.le_refl _)
     replace r2:=r2.later bf)
  | (refine Z03 (by rfl) _ _ (by rfl) g2 (by rfl) (anC 43 0 nilV nilV 0 0 0) 43 (Z07 43) (by rfl) _ r2 rfl ?_;intro w9 r9 s9))
 exact bodyPost_ret (Z0a Z06 Tryz.results32 rfl r9 rfl) rfl ⟨anC 43 0 nilV nilV 0 0 0,rfl,Z07 43,(Z0e ⟨fb,r,c,A,F,sd,sn,H,hUU⟩ Bc (by omega) s9)⟩
set_option maxHeartbeats 8000000 in
theorem lk_p {w:World} {U:Nat→Prop} {y n:Nat} {Z:Tz} (h:Dx w U y Z) (hz:Z.ok n) (hn:n≤900) (o:Oz) (s:Sv) {i:Int} (hi:1≤i∧i.toNat < Z.N.length) (hk2:(Z.nd i).k=1) {E:Int} (hE:E≠0)
 (hW:∀ w',Below w.heap.size w w'→Calls Tryz.prog 21 #[.pointer (some ⟨y,0,none⟩), .string (str o.p)] w' fun e u=>e= .returned (.tuple #[.int .i64 i, .int .i64 0])∧Below w'.heap.size w' u)
 (hP:∀ w',Below w.heap.size w w'→Calls Tryz.prog 66 #[.pointer (some ⟨y,0,none⟩), .string (str o.q), .int .i64 41] w' fun e u=>(∃ d t,e= .returned (.tuple #[.int .i64 d, .string t, .int .i64 E]))∧Below w'.heap.size w' u):
 Calls Tryz.prog 32 #[.pointer (some ⟨y,0,none⟩), .agg (opC o s).toArray] w fun e w'=>RetY e U y Z E w w':=by
 have qE:(E != 0)=true:=by simpa using hE
 have hU:=h.low
 obtain⟨fb,r,c,A,F,sd,sn,H,hUU⟩:=h
 obtain⟨ki,rfl⟩:∃ ki:Nat,i=(ki:Int):=⟨i.toNat,by omega⟩
 have hik:ki < Z.N.length:=by simpa using hi.2
 have a7:(ki:Int) < (Z.N.length:Int):=by omega
 have a6:(0:Int)≤(ki:Int):=by omega
 go_enter Tryz.func32,Tryz.ntmps32
 go_wp2_with (first
  | (refine Z05 (by rfl) _ (by rfl) o s (by rfl) ?_;intro g1 w1 z1 z2 r1 b1
     have Bc:=b1
     have v1:=b1.size
     try clear c11
     try clear c12
     have c11:=r1.cell 1 _ rfl
     have c12:=r1.cell 2 _ rfl)
  | (refine Z02 (by rfl) (by rfl) ?_;intro g2 w2 z3 z4 r2 b2
     replace Bc:=Z00q Bc b2 (Nat.le_refl _)
     have v2:=b2.size
     try (replace r1:=r1.later b2)
     try (replace r2:=r2.later b2)
     try clear c11
     try clear c12
     have c11:=r1.cell 1 _ rfl
     have c12:=r1.cell 2 _ rfl)
  | (go_at_call 21;refine(hW _ Bc).mono ?_;clear hW;rintro e ww ⟨rfl,bw⟩
     replace Bc:=Z00q Bc bw (Nat.le_refl _)
     have vw:=bw.size
     try (replace r1:=r1.later bw)
     try (replace r2:=r2.later bw)
     try clear c11
     try clear c12
     have c11:=r1.cell 1 _ rfl
     have c12:=r1.cell 2 _ rfl
     have q0:=(H.later Bc).c0
     have qk:=(H.later Bc).nk hik
     rw [hk2]at qk)
  | (go_at_call 66;refine(hP _ Bc).mono ?_;clear hP;rintro e wp ⟨⟨dd,tt,rfl⟩,bp⟩
     replace Bc:=Z00q Bc bp (Nat.le_refl _)
     have vp:=bp.size
     try (replace r1:=r1.later bp)
     try (replace r2:=r2.later bp)
     try clear c11
     try clear c12
     have c11:=r1.cell 1 _ rfl
     have c12:=r1.cell 2 _ rfl)
  | (go_at_call 35;refine(Z0b _ _).mono ?_;rintro e wf ⟨rfl,bf⟩
     replace Bc:=Z00q Bc bf (Nat.le_refl _)
     replace r2:=r2.later bf)
  | (refine Z03 (by rfl) _ _ (by rfl) g2 (by rfl) (anC E 0 nilV nilV 0 0 0) E (Z07 E) (by rfl) _ r2 rfl ?_;intro w9 r9 s9))
 exact bodyPost_ret (Z0a Z06 Tryz.results32 rfl r9 rfl) rfl ⟨anC E 0 nilV nilV 0 0 0,rfl,Z07 E,(Z0e ⟨fb,r,c,A,F,sd,sn,H,hUU⟩ Bc (by omega) s9)⟩
set_option maxHeartbeats 8000000 in
theorem lk_x {w:World} {U:Nat→Prop} {y n:Nat} {Z:Tz} (h:Dx w U y Z) (hz:Z.ok n) (hn:n≤900) (o:Oz) (s:Sv) {i:Int} (hi:1≤i∧i.toNat < Z.N.length) {D:Int} {a:List UInt8} (hk2:(Z.nd i).k=1) {j:Int} (hj:j≠0)
 (hW:∀ w',Below w.heap.size w w'→Calls Tryz.prog 21 #[.pointer (some ⟨y,0,none⟩), .string (str o.p)] w' fun e u=>e= .returned (.tuple #[.int .i64 i, .int .i64 0])∧Below w'.heap.size w' u)
 (hP:∀ w',Below w.heap.size w w'→Calls Tryz.prog 66 #[.pointer (some ⟨y,0,none⟩), .string (str o.q), .int .i64 41] w' fun e u=>e= .returned (.tuple #[.int .i64 D, .string (str a), .int .i64 0])∧Below w'.heap.size w' u)
 (hF:∀ w',Below w.heap.size w w'→Calls Tryz.prog 67 #[.pointer (some ⟨y,0,none⟩), .int .i64 D, .string (str a)] w' fun e u=>e= .returned (.int .i64 j)∧w'=u):
 Calls Tryz.prog 32 #[.pointer (some ⟨y,0,none⟩), .agg (opC o s).toArray] w fun e w'=>RetY e U y Z 41 w w':=by
 have qj:(j != 0)=true:=by simpa using hj
 have hU:=h.low
 obtain⟨fb,r,c,A,F,sd,sn,H,hUU⟩:=h
 obtain⟨ki,rfl⟩:∃ ki:Nat,i=(ki:Int):=⟨i.toNat,by omega⟩
 have hik:ki < Z.N.length:=by simpa using hi.2
 have a7:(ki:Int) < (Z.N.length:Int):=by omega
 have a6:(0:Int)≤(ki:Int):=by omega
 go_enter Tryz.func32,Tryz.ntmps32
 go_wp2_with (first
  | (refine Z05 (by rfl) _ (by rfl) o s (by rfl) ?_;intro g1 w1 z1 z2 r1 b1
     have Bc:=b1
     have v1:=b1.size
     try clear c11
     try clear c12
     have c11:=r1.cell 1 _ rfl
     have c12:=r1.cell 2 _ rfl)
  | (refine Z02 (by rfl) (by rfl) ?_;intro g2 w2 z3 z4 r2 b2
     replace Bc:=Z00q Bc b2 (Nat.le_refl _)
     have v2:=b2.size
     try (replace r1:=r1.later b2)
     try (replace r2:=r2.later b2)
     try clear c11
     try clear c12
     have c11:=r1.cell 1 _ rfl
     have c12:=r1.cell 2 _ rfl)
  | (go_at_call 21;refine(hW _ Bc).mono ?_;clear hW;rintro e ww ⟨rfl,bw⟩
     replace Bc:=Z00q Bc bw (Nat.le_refl _)
     have vw:=bw.size
     try (replace r1:=r1.later bw)
     try (replace r2:=r2.later bw)
     try clear c11
     try clear c12
     have c11:=r1.cell 1 _ rfl
     have c12:=r1.cell 2 _ rfl
     have q0:=(H.later Bc).c0
     have qk:=(H.later Bc).nk hik
     rw [hk2]at qk)
  | (go_at_call 66;refine(hP _ Bc).mono ?_;clear hP;rintro e wp ⟨rfl,bp⟩
     replace Bc:=Z00q Bc bp (Nat.le_refl _)
     have vp:=bp.size
     try (replace r1:=r1.later bp)
     try (replace r2:=r2.later bp)
     try clear c11
     try clear c12
     have c11:=r1.cell 1 _ rfl
     have c12:=r1.cell 2 _ rfl)
  | (go_at_call 67;refine(hF _ Bc).mono ?_;clear hF;rintro e u ⟨rfl,rfl⟩)
  | (go_at_call 35;refine(Z0b _ _).mono ?_;rintro e wf ⟨rfl,bf⟩
     replace Bc:=Z00q Bc bf (Nat.le_refl _)
     replace r2:=r2.later bf)
  | (refine Z03 (by rfl) _ _ (by rfl) g2 (by rfl) (anC 41 0 nilV nilV 0 0 0) 41 (Z07 41) (by rfl) _ r2 rfl ?_;intro w9 r9 s9))
 exact bodyPost_ret (Z0a Z06 Tryz.results32 rfl r9 rfl) rfl ⟨anC 41 0 nilV nilV 0 0 0,rfl,Z07 41,(Z0e ⟨fb,r,c,A,F,sd,sn,H,hUU⟩ Bc (by omega) s9)⟩
set_option maxHeartbeats 8000000 in
theorem lk_l {w:World} {U:Nat→Prop} {y n:Nat} {Z:Tz} (h:Dx w U y Z) (hz:Z.ok n) (hn:n≤900) (o:Oz) (s:Sv) {i:Int} (hi:1≤i∧i.toNat < Z.N.length) {D:Int} {a:List UInt8} (hk2:(Z.nd i).k=1) (hl:(Z.nd i).ln=200)
 (hW:∀ w',Below w.heap.size w w'→Calls Tryz.prog 21 #[.pointer (some ⟨y,0,none⟩), .string (str o.p)] w' fun e u=>e= .returned (.tuple #[.int .i64 i, .int .i64 0])∧Below w'.heap.size w' u)
 (hP:∀ w',Below w.heap.size w w'→Calls Tryz.prog 66 #[.pointer (some ⟨y,0,none⟩), .string (str o.q), .int .i64 41] w' fun e u=>e= .returned (.tuple #[.int .i64 D, .string (str a), .int .i64 0])∧Below w'.heap.size w' u)
 (hF:∀ w',Below w.heap.size w w'→Calls Tryz.prog 67 #[.pointer (some ⟨y,0,none⟩), .int .i64 D, .string (str a)] w' fun e u=>e= .returned (.int .i64 0)∧w'=u):
 Calls Tryz.prog 32 #[.pointer (some ⟨y,0,none⟩), .agg (opC o s).toArray] w fun e w'=>RetY e U y Z 48 w w':=by
 have hU:=h.low
 obtain⟨fb,r,c,A,F,sd,sn,H,hUU⟩:=h
 obtain⟨ki,rfl⟩:∃ ki:Nat,i=(ki:Int):=⟨i.toNat,by omega⟩
 have hik:ki < Z.N.length:=by simpa using hi.2
 have a7:(ki:Int) < (Z.N.length:Int):=by omega
 have a6:(0:Int)≤(ki:Int):=by omega
 go_enter Tryz.func32,Tryz.ntmps32
 go_wp2_with (first
  | (refine Z05 (by rfl) _ (by rfl) o s (by rfl) ?_;intro g1 w1 z1 z2 r1 b1
     have Bc:=b1
     have v1:=b1.size
     try clear c11
     try clear c12
     have c11:=r1.cell 1 _ rfl
     have c12:=r1.cell 2 _ rfl)
  | (refine Z02 (by rfl) (by rfl) ?_;intro g2 w2 z3 z4 r2 b2
     replace Bc:=Z00q Bc b2 (Nat.le_refl _)
     have v2:=b2.size
     try (replace r1:=r1.later b2)
     try (replace r2:=r2.later b2)
     try clear c11
     try clear c12
     have c11:=r1.cell 1 _ rfl
     have c12:=r1.cell 2 _ rfl)
  | (go_at_call 21;refine(hW _ Bc).mono ?_;clear hW;rintro e ww ⟨rfl,bw⟩
     replace Bc:=Z00q Bc bw (Nat.le_refl _)
     have vw:=bw.size
     try (replace r1:=r1.later bw)
     try (replace r2:=r2.later bw)
     try clear c11
     try clear c12
     have c11:=r1.cell 1 _ rfl
     have c12:=r1.cell 2 _ rfl
     have q0:=(H.later Bc).c0
     have qk:=(H.later Bc).nk hik
     rw [hk2]at qk)
  | (go_at_call 66;refine(hP _ Bc).mono ?_;clear hP;rintro e wp ⟨rfl,bp⟩
     replace Bc:=Z00q Bc bp (Nat.le_refl _)
     have vp:=bp.size
     try (replace r1:=r1.later bp)
     try (replace r2:=r2.later bp)
     try clear c11
     try clear c12
     have c11:=r1.cell 1 _ rfl
     have c12:=r1.cell 2 _ rfl)
  | (go_at_call 67;refine(hF _ Bc).mono ?_;clear hF;rintro e u ⟨rfl,rfl⟩
     have z0:=(H.later Bc).c0
     have zl:=(H.later Bc).nl hik
     have zf:=(H.later Bc).row.frozen (ki * 4+1)
     rw [hl]at zl)
  | (go_at_call 35;refine(Z0b _ _).mono ?_;rintro e wf ⟨rfl,bf⟩
     replace Bc:=Z00q Bc bf (Nat.le_refl _)
     replace r2:=r2.later bf)
  | (refine Z03 (by rfl) _ _ (by rfl) g2 (by rfl) (anC 48 0 nilV nilV 0 0 0) 48 (Z07 48) (by rfl) _ r2 rfl ?_;intro w9 r9 s9))
 exact bodyPost_ret (Z0a Z06 Tryz.results32 rfl r9 rfl) rfl ⟨anC 48 0 nilV nilV 0 0 0,rfl,Z07 48,(Z0e ⟨fb,r,c,A,F,sd,sn,H,hUU⟩ Bc (by omega) s9)⟩
set_option maxHeartbeats 8000000 in
theorem lk_y {w:World} {U:Nat→Prop} {y n:Nat} {Z:Tz} (h:Dx w U y Z) (hz:Z.ok n) (hn:n≤900) (o:Oz) (s:Sv) {i:Int} (hi:1≤i∧i.toNat < Z.N.length) {D:Int} {a:List UInt8} (hk2:(Z.nd i).k=1) (hl:0≤(Z.nd i).ln∧(Z.nd i).ln < 200) {Z2:Tz}
 (hW:∀ w',Below w.heap.size w w'→Calls Tryz.prog 21 #[.pointer (some ⟨y,0,none⟩), .string (str o.p)] w' fun e u=>e= .returned (.tuple #[.int .i64 i, .int .i64 0])∧Below w'.heap.size w' u)
 (hP:∀ w',Below w.heap.size w w'→Calls Tryz.prog 66 #[.pointer (some ⟨y,0,none⟩), .string (str o.q), .int .i64 41] w' fun e u=>e= .returned (.tuple #[.int .i64 D, .string (str a), .int .i64 0])∧Below w'.heap.size w' u)
 (hF:∀ w',Below w.heap.size w w'→Calls Tryz.prog 67 #[.pointer (some ⟨y,0,none⟩), .int .i64 D, .string (str a)] w' fun e u=>e= .returned (.int .i64 0)∧w'=u)
 (hPut:∀ U' w',Dx w' U' y (Z.lnk i 1)→Calls Tryz.prog 75 #[.pointer (some ⟨y,0,none⟩), .int .i64 D, .string (str a), .int .i64 i] w' fun e u=>e= .returned (.tuple #[])∧DxG U' y Z2 w' u):
 Calls Tryz.prog 32 #[.pointer (some ⟨y,0,none⟩), .agg (opC o s).toArray] w fun e w'=>RetY e U y Z2 0 w w':=by
 have hU:=h.low
 obtain⟨fb,r,c,A,F,sd,sn,H,hUU⟩:=h
 obtain⟨ki,rfl⟩:∃ ki:Nat,i=(ki:Int):=⟨i.toNat,by omega⟩
 have hik:ki < Z.N.length:=by simpa using hi.2
 have a7:(ki:Int) < (Z.N.length:Int):=by omega
 have a6:(0:Int)≤(ki:Int):=by omega
 have e2:(⟨Z.N.set ki ⟨(Z.N.getD ki Nd.zero).k,(Z.nd (ki:Int)).ln+1,(Z.N.getD ki Nd.zero).d,(Z.N.getD ki Nd.zero).nm⟩,Z.t⟩:Tz)=Z.lnk (ki:Int) 1:=rfl
 obtain⟨L,hL⟩:∃ L,Hid ((Z.nd (ki:Int)).ln=L):=⟨_,rfl⟩
 rw [hL.out]at hl e2
 go_enter Tryz.func32,Tryz.ntmps32
 go_wp2_with (first
  | (refine Z05 (by rfl) _ (by rfl) o s (by rfl) ?_;intro g1 w1 z1 z2 r1 b1
     have Bc:=b1
     have v1:=b1.size
     try clear c11
     try clear c12
     have c11:=r1.cell 1 _ rfl
     have c12:=r1.cell 2 _ rfl)
  | (refine Z02 (by rfl) (by rfl) ?_;intro g2 w2 z3 z4 r2 b2
     replace Bc:=Z00q Bc b2 (Nat.le_refl _)
     have v2:=b2.size
     try (replace r1:=r1.later b2)
     try (replace r2:=r2.later b2)
     try clear c11
     try clear c12
     have c11:=r1.cell 1 _ rfl
     have c12:=r1.cell 2 _ rfl)
  | (go_at_call 21;refine(hW _ Bc).mono ?_;clear hW;rintro e ww ⟨rfl,bw⟩
     replace Bc:=Z00q Bc bw (Nat.le_refl _)
     have vw:=bw.size
     try (replace r1:=r1.later bw)
     try (replace r2:=r2.later bw)
     try clear c11
     try clear c12
     have c11:=r1.cell 1 _ rfl
     have c12:=r1.cell 2 _ rfl
     have q0:=(H.later Bc).c0
     have qk:=(H.later Bc).nk hik
     rw [hk2]at qk)
  | (go_at_call 66;refine(hP _ Bc).mono ?_;clear hP;rintro e wp ⟨rfl,bp⟩
     replace Bc:=Z00q Bc bp (Nat.le_refl _)
     have vp:=bp.size
     try (replace r1:=r1.later bp)
     try (replace r2:=r2.later bp)
     try clear c11
     try clear c12
     have c11:=r1.cell 1 _ rfl
     have c12:=r1.cell 2 _ rfl)
  | (go_at_call 67;refine(hF _ Bc).mono ?_;clear hF;rintro e u ⟨rfl,rfl⟩
     have z0:=(H.later Bc).c0
     have zl:=(H.later Bc).nl hik
     have zf:=(H.later Bc).row.frozen (ki * 4+1)
     rw [hL.out]at zl
     have H3:=(H.later Bc).set1 hik (L+1)
     rw [e2]at H3)
  | (go_at_call 75;refine(hPut U _ ⟨fb,r,c,_,_,_,_,H3,hUU⟩).mono ?_;rintro e wl ⟨rfl,Gl⟩
     have GG:=DxG.join ((Stp.refl U _).setCell (p:=⟨r,ki * 4+1,none⟩) (.inl ((hUU r).2 (.inr (.inr (.inl rfl))))) _) (Grew.refl _ _ _) Gl
     replace r2:=r2.step GG.stp (fun e=>by have:=hU g2 e;omega))
  | (refine Z03 (by rfl) _ _ (by rfl) g2 (by rfl) anZ 0 Z0c (by rfl) _ r2 rfl ?_;intro w9 r9 s9))
 exact bodyPost_ret (Z0a Z06 Tryz.results32 rfl r9 rfl) rfl ⟨anZ,rfl,Z0c,Z11 hU Bc GG (by omega) (by omega) s9⟩
section
variable {w : World} {U : Nat → Prop} {y n : Nat} {Z : Tz}
theorem Z5p (h:Dx w U y Z) (hz:Z.ok n) {p:List UInt8} (hp:p.length≤5000):
 ∀ w',Below w.heap.size w w'→Calls Tryz.prog 21 #[.pointer (some ⟨y,0,none⟩), .string (str p)] w' fun e u=>e= .returned (.tuple #[.int .i64 (Z.wa p).1, .int .i64 (Z.wa p).2])∧Below w'.heap.size w' u:=fun w' b=>Zbg (h.later b) hz p hp
theorem Zb8 (h:Dx w U y Z) (hz:Z.ok n) (hn:n≤900) (o:Oz) (ho:o.wfo) (s:Sv):
 Calls Tryz.prog 32 #[.pointer (some ⟨y,0,none⟩), .agg (opC o s).toArray] w fun e w'=>RetY e U y (if Z.liE o=0 then Z.liS o else Z) (Z.liE o) w w':=by
 have hW:=Z5p h hz ho.p
 by_cases h1:(Z.wa o.p).2=0
 · have hk:=Z2d hz h1
   have hi:1≤(Z.wa o.p).1∧(Z.wa o.p).1.toNat < Z.N.length:=hz.live hk
   rw [h1]at hW
   by_cases h2:(Z.nd (Z.wa o.p).1).k=2
   · have e1:Z.liE o=43:=by unfold Tz.liE;rw [if_pos h1,if_pos h2]
     rw [e1,if_neg (by decide)]
     exact lk_d h hz hn o s hi h2 hW
   · have hk1:=Z1z hz hk h2
     by_cases h3:Z.paE o.q 41=0
     · obtain⟨p1,p2,p3⟩:=Z1f hz (by decide) h3
       have hdk:(Z.nd (Z.paD o.q)).k≠0:=by rw [p1];decide
       have hP:=Z3g h hz ho.q (by decide) h3
       have hF:=Z3e h (Z18 hz hdk) (lsS o.q)
       by_cases h4:Z.paI o.q=0
       · rw [show lk (Z.nd (Z.paD o.q)).nm (lsS o.q)=0 from h4]at hF
         by_cases h5:(Z.nd (Z.wa o.p).1).ln=200
         · have e1:Z.liE o=48:=by unfold Tz.liE;rw [if_pos h1,if_neg h2,if_pos h3,if_pos h4,if_pos h5]
           rw [e1,if_neg (by decide)]
           exact lk_l h hz hn o s hi hk1 h5 hW hP hF
         · have e1:Z.liE o=0:=by unfold Tz.liE;rw [if_pos h1,if_neg h2,if_pos h3,if_pos h4,if_neg h5]
           have hlx:=hz.lx (Z.wa o.p).1
           rw [e1,if_pos rfl]
           have eS:Z.liS o=(Z.lnk (Z.wa o.p).1 1).put (Z.paD o.q) (lsS o.q) (Z.wa o.p).1:=by
            unfold Tz.liS Tz.nam;exact Z4i (Z18 hz hdk).2 hi.2
           rw [eS]
           have nd2:(((Z.lnk (Z.wa o.p).1 1).nd (Z.paD o.q)).nm)=(Z.nd (Z.paD o.q)).nm:=by
            rw [Z2a hi.2]
            split
            · rename_i e;rw [Z25 (Z:=Z) e]
            · rfl
           exact lk_y h hz hn o s hi hk1 ⟨hlx.1,by omega⟩ hW hP hF (fun U' w' h'=>Z40 h' ⟨(Z18 hz hdk).1,by rw [Z1j];exact(Z18 hz hdk).2⟩ (by rw [nd2];exact hz.so _) (by rw [nd2];have:=hz.nl (Z.paD o.q);omega) _ _)
       · have e1:Z.liE o=41:=by unfold Tz.liE;rw [if_pos h1,if_neg h2,if_pos h3,if_neg h4]
         rw [e1,if_neg (by decide)]
         exact lk_x h hz hn o s hi hk1 h4 hW hP hF
     · have e1:Z.liE o=Z.paE o.q 41:=by unfold Tz.liE;rw [if_pos h1,if_neg h2,if_neg h3]
       rw [e1,if_neg h3]
       exact lk_p h hz hn o s hi hk1 h3 hW (Z3f h hz ho.q (by decide))
 · have e1:Z.liE o=(Z.wa o.p).2:=by unfold Tz.liE;rw [if_neg h1]
   rw [e1,if_neg h1]
   exact lk_e h hz hn o s h1 hW
end
set_option maxRecDepth 100000
def ndR (x:Nd) (a b:Sv):List Value:= [.int .i64 x.k, .int .i64 x.ln, .slice a.a a.n a.c, .slice b.a b.n b.c]
theorem Ze4 (x:Nd) (a b:Sv):∀ v ∈ ndR x a b,v.oneCell'=true:=by
 intro v hv;unfold ndR at hv;simp at hv;rcases hv with rfl | rfl | rfl | rfl<;>rfl
theorem Z7b:Srt 76 4 ndZ:=
 ⟨⟨_,Tryz.underlying76,rfl⟩,by kernel_rfl,fun w=>(zero_of_info (v:= .agg ndZ.toArray) (n:=4) (by kernel_rfl)).1 w,rfl,fun v hv=>by unfold ndZ at hv;simp at hv;rcases hv with rfl | rfl<;>rfl⟩
theorem Dw.node {w:World} {y fb r c:Nat} {A:Nat→Prop} {F:Nat→Value} {sd sn:Nat→Sv} {Z:Tz} (h:Dw w y fb r c A F sd sn Z) {k:Nat} (hk:k < Z.N.length):w.rangeAt r (k * 4) (ndR (Z.nd (k:Int)) (sd k) (sn k)):=fun j v hv=>by
 unfold ndR at hv
 match j,hv with
 | 0,hv=>simp at hv;subst hv;exact h.nk hk
 | 1,hv=>simp at hv;subst hv;exact h.nl hk
 | 2,hv=>simp at hv;subst hv;exact h.ndt hk
 | 3,hv=>simp at hv;subst hv;exact h.nnm hk
 | j+4,hv=>simp at hv
section
variable {ops : Array Oper} {rest : List Oper} {o : Oper} {a : Act} {w : World} {Q : Exit → Act → World → Prop}
theorem Z2g (hw:Region.wanted o (yielded ops a.tmps)=true) (ho:o.op= .alloc 76)
 (h:∀ g w',w.heap.size≤g→g < w'.heap.size→Cs w' g ndZ→Below w.heap.size w w'→wpList Tryz.prog ops Q rest (a.put o.dst (.pointer (some ⟨g,0,none⟩))) w'):wpList Tryz.prog ops Q (o::rest) a w:=
 Z1i 76 4 _ Z7b hw ho h
theorem Z2h (hw:Region.wanted o (yielded ops a.tmps)=true) (y z:Operand) (ho:o.op= .store 76 y z) (g:Nat) (hx:a.eval y= .pointer (some ⟨g,0,none⟩)) (x:Nd) (s t:Sv) (hy:a.eval z= .agg (ndR x s t).toArray) (hR:Cs w g ndZ)
 (h:∀ w',Cs w' g (ndR x s t)→Stp (fun x=>x=g) w w'→wpList Tryz.prog ops Q rest (a.put o.dst undef) w'):wpList Tryz.prog ops Q (o::rest) a w:=
 Z1e 76 4 _ Z7b hw y z ho g hx (ndR x s t) hy rfl (Ze4 x s t) ndZ hR rfl h
theorem Z31 (hw:Region.wanted o (yielded ops a.tmps)=true) (x:Operand) (ho:o.op= .load 76 x) (r i:Nat) (hx:a.eval x= .pointer (some ⟨r,i,none⟩)) (nd:Nd) (s t:Sv) (hr:w.rangeAt r i (ndR nd s t))
 (h:wpList Tryz.prog ops Q rest (a.put o.dst (.agg (ndR nd s t).toArray)) w):wpList Tryz.prog ops Q (o::rest) a w:=by
 refine Z0z hw _ _ ?_ h
 obtain⟨d,k1,k2⟩:=Z7b.und
 have:(loadVar 76 ⟨r,i,none⟩).run Tryz.prog w= .ok (.agg (ndR nd s t).toArray) w:=run_loadVar_mid w r _ _ (ndR nd s t) _ hr k1 k2 (by rw [Z7b.size];rfl)
 simp [execOp,ho,hx,Instr.loadAt,Instr.sureAddr,this]
end
section
variable {H : Type} {enc : TypeId × Value → H} {w : World} {base : Nat} {spare : Nat → Bool} {held : Bool}
theorem Zf2 {fuel:Nat} {cs:List Value} {x:DataW H×List MemPlace} (h:DataW.trod enc Tryz.prog w base spare held fuel 55 cs=some x):∃ (s:Sv) (l:List Int),cs= [.slice s.a s.n s.c]∧InsS w s l:=by
 rcases open_ints (k:= .i64) (e:=3) (by kernel_rfl) u3 (by kernel_rfl) h with⟨hcs,_⟩ | ⟨a,l,c,zs,hcs,_,hl,hm,hz,_,hcell,hwz⟩
 · exact⟨Sv.nil, [],hcs,InsS.nil w⟩
 · exact⟨⟨some a,l,c⟩,_,hcs,Zcd hl hm (by rw [hz];show l≤_;split<;>omega) hcell hwz,fun e=>by cases e⟩
theorem Zc5 {w:World} {x:Addr} {n c:Nat} {zs:List Int} (hl:n≤c) (hm:c≤maxLen) (hz:n≤zs.length) (hcell:∀ i,i < zs.length→w.cell? (x.add i)=some (.int .u8 (zs.getD i 0))) (hwz:∀ k ∈ zs,(Lit.int .u8 k).wf=true):
 Bs w (some x) n c (zs.take n):=by
 refine⟨by simp;omega,hl,hm,(fun h=>by cases h),fun k hk=>?_,fun hn=>?_⟩
 · have:=bounds_u8 (hwz k (List.mem_of_mem_take hk));omega
 · obtain⟨b,o,spot⟩:=x
   have h0:=hcell 0 (by omega)
   have hspot:spot=none:=by simpa [Addr.add]using World.cell?_spot h0
   subst hspot
   refine⟨b,o,rfl,fun i hi=>?_⟩
   have:=hcell i (by omega)
   rw [Addr.add_lit]at this
   rw [this,List.getD_eq_getElem?_getD,List.getD_eq_getElem?_getD,List.getElem?_take,if_pos hi]
theorem Z8k {fuel:Nat} {cs:List Value} {x:DataW H×List MemPlace} (h:DataW.trod enc Tryz.prog w base spare held fuel 29 cs=some x):∃ (s:Sv) (l:List Int),cs= [.slice s.a s.n s.c]∧BsS w s l:=by
 rcases open_ints (k:= .u8) (e:=5) (by kernel_rfl) (by kernel_rfl) (by kernel_rfl) h with⟨hcs,_⟩ | ⟨x,l,c,zs,hcs,_,hl,hm,hz,_,hcell,hwz⟩
 · exact⟨Sv.nil, [],hcs,Z0y w⟩
 · exact⟨⟨some x,l,c⟩,_,hcs,Zc5 hl hm (by rw [hz];show l≤_;split<;>omega) hcell hwz⟩
theorem Z3l {cs:List Value} {i:Nat} {v:Value} (h:(cs.drop i).take 1= [v]):cs[i]? =some v:=by
 have:((cs.drop i).take 1)[0]? =some v:=by rw [h];rfl
 rw [List.getElem?_take,if_pos (by omega),List.getElem?_drop]at this
 simpa using this
end
set_option maxRecDepth 100000
structure Ox where
 o:Oz
 d:Sv
def Ox.cs (t:Ox):List Value:=opC t.o t.d
def Ox.zero:Ox:=⟨Oz.zero,Sv.nil⟩
theorem Ox.cs_len (t:Ox):t.cs.length=8:=rfl
structure Oz.wfn (o:Oz):Prop where
 k:wfi o.k
 fd:wfi o.fd
 n:wfi o.n
 off:wfi o.off
 fl:wfi o.fl
structure Po (w:World) (E:Nat→Prop) (s:Sv) (L:List Ox):Prop where
 len:L.length=s.n
 le:s.n≤s.c
 cap:s.c≤maxLen
 cell:0 < s.n→∃ b o,s.a=some ⟨b,o,none⟩∧E b∧∀ i (t:Ox),L[i]? =some t→w.rangeAt b (o+i * 8) t.cs
 wf:∀ t ∈ L,t.o.wfn∧t.o.d.length≤reachBytes
 ms:∀ t ∈ L,BsS w t.d t.o.d∧InE E t.d
theorem Po.nilS (w:World) (E:Nat→Prop):Po w E Sv.nil []:=
 ⟨rfl,Nat.le_refl _,Nat.zero_le _,fun h=>absurd h (by decide),(fun t ht=>by cases ht),(fun t ht=>by cases ht)⟩
section
variable {H : Type} {enc : TypeId × Value → H} {w : World} {base : Nat} {spare : Nat → Bool} {held : Bool}
theorem Zer {fuel:Nat} {a:Option Addr} {n c:Nat} {x:DataW H×List MemPlace} (h:DataW.trod enc Tryz.prog w base spare held fuel 29 [.slice a n c]=some x):n=0∨∃ k ∈ x.1.weights Tryz.prog 29,n≤k:=by
 rcases Deep.open_slice (e:=5) (by kernel_rfl) h with⟨hcs,_⟩ | ⟨b,len,cap,m,_,D,Pl,hcs,_,hl,hm,hmm,hx,_⟩
 · left;injection hcs with hcs _;injection hcs
 · right
   injection hcs with hcs _
   injection hcs with _ hn _
   subst hn
   have hb:Tryz.prog.bytesOf 5=1:=by kernel_rfl
   have hu:Tryz.prog.underlying 29=some (.slice 5):=by kernel_rfl
   refine⟨_,by rw [hx];simp only [DataW.weights,hu];exact List.mem_cons_self ..,?_⟩
   rw [hb];simp
theorem Z9z {fuel:Nat} {cs:List Value} {x:DataW H×List MemPlace} (h:DataW.trod enc Tryz.prog w base spare held fuel 37 cs=some x) (hz:∀ k ∈ x.1.weights Tryz.prog 37,k≤reachBytes):∃ t:Ox,t.cs=cs∧t.o.wfn∧t.o.d.length≤reachBytes∧BsS w t.d t.o.d:=by
 obtain ⟨fs,hfs,hf0,hf1,hf2,hf3,hf4,hf5,hf6,hf7⟩:∃ fs:Array Field,Tryz.prog.underlying 37=some (.struct fs)∧(fs[0]?.map fun f=>(f.offset,f.type))=some (0,3)∧(fs[1]?.map fun f=>(f.offset,f.type))=some (1,9)∧(fs[2]?.map fun f=>(f.offset,f.type))=some (2,9)∧(fs[3]?.map fun f=>(f.offset,f.type))=some (3,3)∧(fs[4]?.map fun f=>(f.offset,f.type))=some (4,3)∧(fs[5]?.map fun f=>(f.offset,f.type))=some (5,3)∧(fs[6]?.map fun f=>(f.offset,f.type))=some (6,3)∧(fs[7]?.map fun f=>(f.offset,f.type))=some (7,29):=
  ⟨_,Tryz.underlying37,rfl,rfl,rfl,rfl,rfl,rfl,rfl,rfl⟩
 have hsz:fs.size=8:=by
  have e:=Tryz.underlying37
  rw [hfs]at e;injection e with e;injection e with e;subst e;rfl
 obtain⟨xs,m,_,hxx,hl,hx,hi⟩:=DataW.trod_struct hfs h
 have hl':cs.length=8:=hl.trans (by kernel_rfl)
 have ci:Tryz.prog.cellsOf 3=1:=by kernel_rfl
 have cb:Tryz.prog.cellsOf 29=1:=by kernel_rfl
 have cst:Tryz.prog.cellsOf 9=1:=by kernel_rfl
 have get:∀ i o t,(fs[i]?.map fun f=>(f.offset,f.type))=some (o,t)→i < 8→∃ y,xs[i]? =some y∧DataW.trod enc Tryz.prog w base spare held m t ((cs.drop o).take (Tryz.prog.cellsOf t))=some y:=fun i o t e hi4=>by
  cases ef:fs[i]? with
  | none=>rw [ef]at e;cases e
  | some f=>
    rw [ef]at e
    simp only [Option.map_some,Option.some.injEq,Prod.mk.injEq]at e
    have:=hi i f ef
    rw [e.1,e.2,List.getElem?_eq_getElem (by omega)]at this
    exact⟨_,List.getElem?_eq_getElem (by omega),this⟩
 obtain⟨_,_,g0⟩:=get 0 0 _ hf0 (by omega)
 obtain⟨_,_,g1⟩:=get 1 1 _ hf1 (by omega)
 obtain⟨_,_,g2⟩:=get 2 2 _ hf2 (by omega)
 obtain⟨_,_,g3⟩:=get 3 3 _ hf3 (by omega)
 obtain⟨_,_,g4⟩:=get 4 4 _ hf4 (by omega)
 obtain⟨_,_,g5⟩:=get 5 5 _ hf5 (by omega)
 obtain⟨_,_,g6⟩:=get 6 6 _ hf6 (by omega)
 obtain⟨y7,hy7,g7⟩:=get 7 7 _ hf7 (by omega)
 rw [ci]at g0 g3 g4 g5 g6;rw [cb]at g7;rw [cst]at g1 g2
 obtain⟨x0,e0,_,w0⟩:=DataW.trod_int Tryz.underlying3 g0
 obtain⟨x1,e1,_,_⟩:=DataW.trod_string Tryz.underlying9 g1
 obtain⟨x2,e2,_,_⟩:=DataW.trod_string Tryz.underlying9 g2
 obtain⟨x3,e3,_,w3⟩:=DataW.trod_int Tryz.underlying3 g3
 obtain⟨x4,e4,_,w4⟩:=DataW.trod_int Tryz.underlying3 g4
 obtain⟨x5,e5,_,w5⟩:=DataW.trod_int Tryz.underlying3 g5
 obtain⟨x6,e6,_,w6⟩:=DataW.trod_int Tryz.underlying3 g6
 obtain⟨x7,l7,e7,w7⟩:=Z8k g7
 refine⟨⟨⟨x0,x1.data.toList,x2.data.toList,x3,x4,x5,x6,l7⟩,x7⟩,?_,⟨w0,w3,w4,w5,w6⟩,?_,w7⟩
 · apply List.ext_getElem?
   intro i
   unfold Ox.cs opC
   match i with
   | 0=>exact(Z3l e0).symm
   | 1=>rw [Z3l e1];show some (Value.string (str x1.data.toList))=_;rw [← Zbo]
   | 2=>rw [Z3l e2];show some (Value.string (str x2.data.toList))=_;rw [← Zbo]
   | 3=>exact(Z3l e3).symm
   | 4=>exact(Z3l e4).symm
   | 5=>exact(Z3l e5).symm
   | 6=>exact(Z3l e6).symm
   | 7=>exact(Z3l e7).symm
   | i+8=>rw [List.getElem?_eq_none (show cs.length≤i+8 by omega)];rfl
 · rw [e7]at g7
   have hll:l7.length=x7.n:=w7.len
   show l7.length≤reachBytes
   rw [hll]
   rcases Zer g7 with h4 | ⟨k,hk,hle⟩
   · rw [h4];exact Nat.zero_le _
   · refine Nat.le_trans hle (hz k ?_)
     rw [hxx]
     simp only [DataW.weights,hfs]
     refine DataW.weights_mem_each (j:=7) (t:=29) (d:=y7.1) ?_ ?_ k hk
     · cases ef:fs[7]? with
       | none=>rw [ef]at hf7;cases hf7
       | some f=>
         rw [ef]at hf7
         simp only [Option.map_some,Option.some.injEq,Prod.mk.injEq]at hf7
         have e5:fs.toList[7]? =some f:=by simpa using ef
         rw [List.getElem?_map,e5];simp [hf7.2]
     · rw [List.getElem?_map,hy7];rfl
theorem Z9p {P:Program} {e:TypeId} :∀ {ds:List (DataW H)} {d:DataW H},d ∈ ds→∀ k ∈ d.weights P e,k ∈ DataW.weightsAll P e ds
 | d0::ds,d,hd,k,hk=>by
   simp only [DataW.weightsAll,List.mem_append]
   rcases List.mem_cons.1 hd with rfl | h
   · exact .inl hk
   · exact .inr (Z9p h k hk)
theorem Z9e {fuel:Nat} {cs:List Value} {x:DataW H×List MemPlace} (h:DataW.trod enc Tryz.prog w base spare held fuel 22 cs=some x) (hz:∀ k ∈ x.1.weights Tryz.prog 22,k≤reachBytes):∃ a n c L,cs= [.slice a n c]∧Po w (fun x=>x < w.heap.size) ⟨a,n,c⟩ L:=by
 have inE:∀ (s:Sv) (l:List Int),BsS w s l→InE (fun x=>x < w.heap.size) s:=fun s l hs ad e hn=>by
  obtain⟨b,o,e2,hc⟩:=hs.cell hn
  rw [e]at e2;injection e2 with e2;subst e2
  exact World.block_lt_of_cell? w _ (hc 0 hn)
 rcases Deep.open_slice (e:=37) (by kernel_rfl) h with⟨hcs,_⟩ | ⟨a,len,cap,m,n,D,Pl,hcs,_,hl,hm,hmm,hxx,hx⟩
 · exact⟨none,0,0, [],hcs,Po.nilS _ _⟩
 · have c8:Tryz.prog.cellsOf 37=8:=by kernel_rfl
   have hlm:len≤m:=by rw [hmm];split<;>omega
   have each:∀ i,i < len→∃ y:Ox,(∀ j v,y.cs[j]? =some v→w.cell? (a.add (i * 8+j))=some v)∧y.o.wfn∧y.o.d.length≤reachBytes∧BsS w y.d y.o.d:=fun i hi=>by
    obtain⟨cs',h1,h2⟩:=hx i (by omega)
    rw [c8]at h1
    have hz':∀ k ∈ (D i).weights Tryz.prog 37,k≤reachBytes:=fun k hk=>by
     refine hz k ?_
     have hu:Tryz.prog.underlying 22=some (.slice 37):=by kernel_rfl
     rw [hxx]
     simp only [DataW.weights,hu]
     refine List.mem_cons_of_mem _ (List.mem_append_left _ (Z9p (d:=D i) ?_ k hk))
     exact List.mem_map.2 ⟨i,List.mem_range.2 hi,rfl⟩
    obtain⟨y,e1,e2,e3,e4⟩:=Z9z h2 hz'
    obtain⟨_,hlen,hcell⟩:=World.cells?_some h1
    refine⟨y,fun j v hv=>?_,e2,e3,e4⟩
    have hj:j < 8:=by have:=(List.getElem?_eq_some_iff.1 hv).1;rw [Ox.cs_len]at this;exact this
    have:=hcell j hj
    rw [Deep.add_add,← e1,hv]at this
    exact this
   have hspec:∀ t ∈ ((List.range len).map fun i=>if hi:i < len then Classical.choose (each i hi)else Ox.zero),t.o.wfn∧t.o.d.length≤reachBytes∧BsS w t.d t.o.d:=fun t ht=>by
    obtain⟨i,hi,rfl⟩:=List.mem_map.1 ht
    have hi':i < len:=by simpa using hi
    simp only [dif_pos hi']
    exact(Classical.choose_spec (each i hi')).2
   refine⟨_,_,_,(List.range len).map fun i=>if hi:i < len then Classical.choose (each i hi)else Ox.zero,hcs,by simp,hl,hm,fun hn=>?_,fun t ht=>⟨(hspec t ht).1,(hspec t ht).2.1⟩,fun t ht=>⟨(hspec t ht).2.2,inE _ _ (hspec t ht).2.2⟩⟩
   obtain⟨b,o,spot⟩:=a
   have hspot:spot=none:=by
    obtain⟨y,hy,_⟩:=each 0 hn
    have:=hy 0 (.int .i64 y.o.k) rfl
    simpa [Addr.add]using World.cell?_spot this
   subst hspot
   have hblt:b < w.heap.size:=by
    obtain⟨y,hy,_⟩:=each 0 hn
    have:=hy 0 (.int .i64 y.o.k) rfl
    exact World.block_lt_of_cell? w _ this
   refine⟨b,o,rfl,hblt,fun i t ht=>?_⟩
   have hi:i < len:=by have:=(List.getElem?_eq_some_iff.1 ht).1;simpa using this
   rw [List.getElem?_map,List.getElem?_range hi]at ht
   simp only [Option.map_some,dif_pos hi,Option.some.injEq]at ht
   subst ht
   intro j v hv
   have:=(Classical.choose_spec (each i hi)).1 j v hv
   rw [Addr.add_mid]at this
   rw [show o+i * 8+j=o+(i * 8+j) by omega];exact this
end
theorem Z54 (l:List Int) (k:Nat):l.take (min l.length k)=l.take k:=by
 by_cases h:l.length≤k
 · rw [Nat.min_eq_left h,List.take_length,List.take_of_length_le h]
 · rw [Nat.min_eq_right (by omega)]
theorem BsS.cut {w:World} {s:Sv} {l:List Int} (h:BsS w s l) (k:Nat):BsS w ⟨s.a,min s.n k,s.c⟩ (l.take k):=by
 have:=Bs.take h (min s.n k) (Nat.min_le_left _ _)
 have e:=h.len
 rw [← e,Z54]at this
 rw [← e];exact this
end Go.Proofs.YtdnjddpfcgginaaGreat
