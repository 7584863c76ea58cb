/-
  Texts of my own, joined: no statement is proved here.
-/
import Derived.Test.YtdnjddpfcgginaaGreatJag
set_option linter.unusedSimpArgs false
set_option linter.unusedVariables false
namespace Go.Proofs.YtdnjddpfcgginaaGreat
open Go.ChangeShapes Go.WideShapes Go.ChangeAt Go.RowKit
section
variable {Z : Tz} {m n : Nat} {x : Int → Int}
theorem Zdj {i:Int} (hi:i.toNat < Z.N.length):(Z.lnk i 1).lnk i (-1)=Z:=by
 refine Z3k (by rw [Z1h,Z1h]) (fun j hj=>?_) rfl
 have e1:=Z2a (Z:=Z.lnk i 1) (i:=i) (y:= -1) (by rw [Z1h];exact hi) j
 rw [e1]
 simp only [Z2a hi]
 by_cases h:j.toNat=i.toNat
 · have h4:Z.nd j=Z.nd i:=by unfold Tz.nd;rw [h]
   rw [h4]
   simp [h]
   cases Z.nd i;simp;omega
 · simp [h]
theorem Z7v {d i v:Int} {s:List UInt8} (hd:d.toNat < Z.N.length) (hi:i.toNat < Z.N.length) (hne:d.toNat≠i.toNat):(Z.gone i).put d s v=(Z.put d s v).gone i:=by
 have h1:(Z.put d s v).nd i=Z.nd i:=by rw [Z0v hd,if_neg (fun e=>hne e.symm)]
 have h2:(Z.put d s v).t=Z.t:=rfl
 unfold Tz.gone
 rw [h1,h2]
 by_cases c:(Z.nd i).ln=0∧fdCt Z.t i 8=0
 · rw [if_pos c,if_pos c]
   refine Z3k (by rw [Z0h,up_len,up_len,Z0h]) (fun j hj=>?_) rfl
   have e1:=Z0v (Z:=Z.up i Nd.zero) (d:=d) (i:=v) (s:=s) (by rw [up_len];exact hd) j
   have e2:=Z24 (Z:=Z.put d s v) (i:=i) (x:=Nd.zero) (by rw [Z0h];exact hi) j
   rw [e1,e2]
   simp only [Z24 hi,Z0v hd]
   by_cases g1:j.toNat=d.toNat
   · have g2:¬j.toNat=i.toNat:=by omega
     simp [g1,hne]
   · simp [g1]
 · rw [if_neg c,if_neg c]
theorem Z88 (h:Z.okD m n x) {d e i:Int} {s u:List UInt8} (hd:(Z.nd d).k=2) (he:(Z.nd e).k=2) (hi:2≤i) (hsu:d=e→s≠u):
 (Z.put e u i).put d s 0=(Z.put d s 0).put e u i:=by
 have hd1:=(h.live (i:=d) (by rw [hd];decide)).2
 have he1:=(h.live (i:=e) (by rw [he];decide)).2
 refine Z3k (by simp only [Z0h]) (fun j hj=>?_) rfl
 have e1:=Z0v (Z:=Z.put e u i) (d:=d) (i:=0) (s:=s) (by rw [Z0h];exact hd1) j
 have e2:=Z0v (Z:=Z.put d s 0) (d:=e) (i:=i) (s:=u) (by rw [Z0h];exact he1) j
 rw [e1,e2]
 simp only [Z0v hd1,Z0v he1]
 by_cases g1:d=e
 · subst g1
   by_cases g2:j.toNat=d.toNat
   · simp only [g2,if_true]
     congr 1
     have hso:=h.so d
     refine Z5j (Z1a (Z1a hso _ _) _ _) (Z1a (Z1a hso _ _) _ _) (fun y hy=>?_) (fun y hy=>?_) (fun y=>?_)
     · rcases Z2d (Z1a hso _ _) hy with⟨y1,_⟩ | ⟨_,y1⟩
       · rcases Z2d hso y1 with⟨y2,_⟩ | ⟨y2,_⟩
         · have:=(h.nw d y y2).2.1;omega
         · rw [y2];simp only;omega
       · exact absurd rfl y1
     · rcases Z2d (Z1a hso _ _) hy with⟨y1,_⟩ | ⟨y1,_⟩
       · rcases Z2d hso y1 with⟨y2,_⟩ | ⟨_,y2⟩
         · have:=(h.nw d y y2).2.1;omega
         · exact absurd rfl y2
       · rw [y1];simp only;omega
     · rw [Z1m (Z1a hso _ _),Z1m hso,Z1m (Z1a hso _ _),Z1m hso]
       by_cases y1:y=s
       · have:y≠u:=fun y2=>hsu rfl (y1.symm.trans y2)
         simp [y1,hsu rfl]
       · simp [y1]
   · simp [g2]
 · have g3:¬d.toNat=e.toNat:=fun q=>g1 (by have:=(h.live (i:=d) (by rw [hd];decide)).1;have:=(h.live (i:=e) (by rw [he];decide)).1;omega)
   by_cases g2:j.toNat=d.toNat
   · simp [g2,g3]
   · by_cases g4:j.toNat=e.toNat
     · have g5:¬e.toNat=d.toNat:=fun q=>g3 q.symm
       simp [g4,g5]
     · simp [g2,g4]
theorem Zca {l:List Ent} (hl:Srd l) {s:List UInt8} (h0:∀ y ∈ l,y.n≠0) (h:lk l s=0):ptL l s 0=l:=by
 refine Z5j (Z1a hl s 0) hl (fun y hy=>?_) h0 (fun y=>?_)
 · rcases Z2d hl hy with⟨y1,_⟩ | ⟨_,y1⟩
   · exact h0 y y1
   · exact absurd rfl y1
 · rw [Z1m hl]
   split
   · rename_i e;rw [e,h]
   · rfl
theorem Z5x (h:Z.okD m n x) {d:Int} {s:List UInt8} (hd:(Z.nd d).k=2) (hl:lk (Z.nd d).nm s=0):Z.put d s 0=Z:=by
 have hd1:=(h.live (i:=d) (by rw [hd];decide)).2
 refine Z3k (by rw [Z0h]) (fun j hj=>?_) rfl
 rw [Z0v hd1]
 split
 · rename_i e
   have e2:Z.nd j=Z.nd d:=by unfold Tz.nd;rw [e]
   rw [Zca (h.so d) (fun y hy=>by have:=(h.nw d y hy).2.1;omega) hl,e2]
 · rfl
def Tz.mvR (Z:Tz) (d:Int) (s:List UInt8) (i e:Int) (u:List UInt8) (j:Int):Tz:=
 if j=0 then((Z.put d s 0).put e u 0).put e u i else(((((Z.put d s 0).put e u 0).put e u i).lnk j (-1)).gone j)
structure Tz.mvOk (Z:Tz) (d:Int) (s:List UInt8) (i e:Int) (u:List UInt8) (j:Int):Prop where
 hd:(Z.nd d).k=2
 he:(Z.nd e).k=2
 hs:lk (Z.nd d).nm s=i
 hu:lk (Z.nd e).nm u=j
 ns:nm u=true
 i2:2≤i
 ij:i≠j
 je:j≠0→(Z.nd j).nm= []
 ln:(Z.nd i).ln < 200
theorem Z9u (h:Z.okD m n x) {d i e j:Int} {s u:List UInt8} (H:Z.mvOk d s i e u j):(d=e→s≠u)∧(j≠0→2≤j∧(Z.nd j).k≠0∧j≠d∧j≠e):=by
 refine⟨fun e1 e2=>H.ij (by rw [← H.hs,← H.hu,e1,e2]),fun hj=>?_⟩
 have hl:=Z2o h e (s:=u) (by rw [H.hu];exact hj)
 rw [H.hu]at hl
 refine⟨hl.1,hl.2,fun q=>?_,fun q=>?_⟩
 · have:=H.hs;rw [← q,H.je hj]at this;have:=H.i2;simp only [lk]at *;omega
 · have:=H.hu;rw [← q,H.je hj]at this;simp only [lk]at this;omega
theorem Zcs (h:Z.okD m n x) (hx:∀ j,2≤j→x j=0) {d i e j:Int} {s u:List UInt8} (H:Z.mvOk d s i e u j):Z.mv d s i e u j=Z.mvR d s i e u j:=by
 obtain⟨n1,n2⟩:=Z9u h H
 have hd1:=(h.live (i:=d) (by rw [H.hd];decide)).2
 have he1:=(h.live (i:=e) (by rw [H.he];decide)).2
 have hik:(Z.nd i).k≠0:=by have:=(Z2o h d (s:=s) (by rw [H.hs];have:=H.i2;omega)).2;rw [H.hs]at this;exact this
 have hi1:=(h.live hik).2
 have hi2:=H.i2
 -- the link of what is moved
 have hln:1≤(Z.nd i).ln:=by
  obtain⟨y,q1,q2,q3⟩:=Z3u (l:=(Z.nd d).nm) (s:=s) (by rw [H.hs];omega)
  have c:=Z4a Z.N d.toNat y q1
  rw [q3,H.hs]at c
  have:=h.ln i (by omega) hik
  have:=hx i hi2
  omega
 have key:∀ A:Tz,A.N.length=Z.N.length→(A.nd i).ln=(Z.nd i).ln→(A.nam e u i).un d s i=(A.put e u i).put d s 0:=fun A hA hl=>by
  have a1:i.toNat < (A.put e u i).N.length:=by rw [Z0h,hA];exact hi1
  have a2:d.toNat < (A.put e u i).N.length:=by rw [Z0h,hA];exact hd1
  have a3:e.toNat < A.N.length:=by rw [hA];exact he1
  unfold Tz.un Tz.nam
  rw [← Z4i a2 a1,Zdj (by rw [Z0h];exact a1)]
  unfold Tz.gone
  rw [if_neg]
  intro c
  have c1:=c.1
  have e1:=Z0v (Z:=A.put e u i) (d:=d) (i:=0) (s:=s) a2 i
  have e2:=Z0v (Z:=A) (d:=e) (i:=i) (s:=u) a3 i
  have e3:=Z0v (Z:=A) (d:=e) (i:=i) (s:=u) a3 d
  have q:∀ a b:Int,a.toNat=b.toNat→A.nd a=A.nd b:=fun a b w=>by unfold Tz.nd;rw [w]
  rw [e1]at c1
  split at c1
  · rename_i w
    simp only at c1
    rw [e3]at c1
    split at c1
    · rename_i w2;simp only at c1;rw [q e i (by omega),hl]at c1;omega
    · rw [q d i (by omega),hl]at c1;omega
  · rw [e2]at c1
    split at c1
    · rename_i w2;simp only at c1;rw [q e i (by omega),hl]at c1;omega
    · rw [hl]at c1;omega
 unfold Tz.mv Tz.mvR
 by_cases hj:j=0
 · rw [if_pos hj,if_pos hj,key Z rfl rfl,Z88 h H.hd H.he hi2 n1]
   have hu0:lk (Z.nd e).nm u=0:=by rw [H.hu,hj]
   have h1:=h.put0 H.hd s
   have e1:((Z.put d s 0).nd e).k=2∧lk ((Z.put d s 0).nd e).nm u=0:=by
    rw [Z0v hd1]
    split
    · rename_i w
      refine⟨H.hd,?_⟩
      have w2:d=e:=by have:=(h.live (i:=d) (by rw [H.hd];decide)).1;have:=(h.live (i:=e) (by rw [H.he];decide)).1;omega
      simp only
      rw [Z1m (h.so d),if_neg (fun q=>n1 w2 q.symm),w2];exact hu0
    · exact⟨H.he,hu0⟩
   rw [Z5x h1 e1.1 e1.2]
 · obtain⟨j2,jk,jd,je⟩:=n2 hj
   have hj1:=(h.live jk).2
   rw [if_neg hj,if_neg hj]
   have dj:d.toNat≠j.toNat:=by have:=(h.live (i:=d) (by rw [H.hd];decide)).1;omega
   have ej:e.toNat≠j.toNat:=by have:=(h.live (i:=e) (by rw [H.he];decide)).1;omega
   have hA:((Z.un e u j).nd i).ln=(Z.nd i).ln:=by
    rw [Z82 he1 hj1 (by have:=H.ij;omega),Z0v he1]
    split
    · rename_i w;simp only;unfold Tz.nd;rw [w]
    · rfl
   rw [key (Z.un e u j) Zbl hA]
   have h1:=h.put0 H.he u
   have b1:((Z.put e u 0).nd d).k=2:=by
    rw [Z0v he1];split
    · exact H.he
    · exact H.hd
   have b2:((Z.put e u 0).nd e).k=2:=by rw [Z0v he1,if_pos rfl];exact H.he
   have c1:((Z.put e u 0).lnk j (-1)).put e u i=((Z.put e u 0).put e u i).lnk j (-1):=(Z4i (by rw [Z0h];exact he1) (by rw [Z0h];exact hj1)).symm
   have c2:(((Z.put e u 0).put e u i).lnk j (-1)).put d s 0=(((Z.put e u 0).put e u i).put d s 0).lnk j (-1):=(Z4i (by simp only [Z0h];exact hd1) (by simp only [Z0h];exact hj1)).symm
   show((((Z.put e u 0).lnk j (-1)).gone j).put e u i).put d s 0=_
   rw [Z7v (by rw [Z1h,Z0h];exact he1) (by rw [Z1h,Z0h];exact hj1) ej,c1,Z7v (by rw [Z1h,Z0h,Z0h];exact hd1) (by rw [Z1h,Z0h,Z0h];exact hj1) dj,c2,Z88 h1 b1 b2 hi2 n1]
   -- the two names taken away,in one order as in the other
   have sw:(Z.put e u 0).put d s 0=(Z.put d s 0).put e u 0:=by
    refine Z3k (by simp only [Z0h]) (fun q hq=>?_) rfl
    have e1:=Z0v (Z:=Z.put e u 0) (d:=d) (i:=0) (s:=s) (by rw [Z0h];exact hd1) q
    have e2:=Z0v (Z:=Z.put d s 0) (d:=e) (i:=0) (s:=u) (by rw [Z0h];exact he1) q
    rw [e1,e2]
    simp only [Z0v hd1,Z0v he1]
    by_cases g1:d=e
    · subst g1
      by_cases g2:q.toNat=d.toNat
      · simp only [g2,if_true]
        congr 1
        have hso:=h.so d
        have nz:∀ a b,∀ y ∈ ptL (ptL (Z.nd d).nm a 0) b 0,y.n≠0:=fun a b y hy=>by
         rcases Z2d (Z1a hso _ _) hy with⟨y1,_⟩ | ⟨_,y1⟩
         · rcases Z2d hso y1 with⟨y2,_⟩ | ⟨_,y2⟩
           · have:=(h.nw d y y2).2.1;omega
           · exact absurd rfl y2
         · exact absurd rfl y1
        refine Z5j (Z1a (Z1a hso _ _) _ _) (Z1a (Z1a hso _ _) _ _) (nz _ _) (nz _ _) (fun y=>?_)
        rw [Z1m (Z1a hso _ _),Z1m hso,Z1m (Z1a hso _ _),Z1m hso]
        by_cases y1:y=s
        · simp [y1]
        · simp [y1]
      · simp [g2]
    · have g3:¬d.toNat=e.toNat:=fun q=>g1 (by have:=(h.live (i:=d) (by rw [H.hd];decide)).1;have:=(h.live (i:=e) (by rw [H.he];decide)).1;omega)
      by_cases g2:q.toNat=d.toNat
      · simp [g2,g3]
      · by_cases g4:q.toNat=e.toNat
        · have g5:¬e.toNat=d.toNat:=fun q=>g3 q.symm
          simp [g4,g5]
        · simp [g2,g4]
   rw [sw]
theorem Zet (h:Z.okD m n x) {d i e j:Int} {s u:List UInt8} (H:Z.mvOk d s i e u j) (hx:∀ j,2≤j→x j=0):(Z.mvR d s i e u j).okD m (n+1) x:=by
 obtain⟨n1,n2⟩:=Z9u h H
 have hd0:=h.live (i:=d) (by rw [H.hd];decide)
 have he0:=h.live (i:=e) (by rw [H.he];decide)
 have hd1:=hd0.2
 have he1:=he0.2
 have hik:(Z.nd i).k≠0:=by have:=(Z2o h d (s:=s) (by rw [H.hs];have:=H.i2;omega)).2;rw [H.hs]at this;exact this
 have hi2:=H.i2
 have R1:=h.put0 H.hd s
 have f1:=fun y=>Z0v (Z:=Z) (d:=d) (i:=0) (s:=s) hd1 y
 have e1:((Z.put d s 0).nd e).k=2∧lk ((Z.put d s 0).nd e).nm u=j:=by
  rw [f1 e]
  split
  · rename_i w
    refine⟨H.hd,?_⟩
    have w2:d=e:=by omega
    simp only
    rw [Z1m (h.so d),if_neg (fun q=>n1 w2 q.symm),w2];exact H.hu
  · exact⟨H.he,H.hu⟩
 have R2:=R1.put0 e1.1 u
 have f2:=fun y=>Z0v (Z:=Z.put d s 0) (d:=e) (i:=0) (s:=u) (by rw [Z0h];exact he1) y
 have e2:(((Z.put d s 0).put e u 0).nd e).k=2∧lk (((Z.put d s 0).put e u 0).nd e).nm u=0:=by
  rw [f2 e,if_pos rfl]
  refine⟨e1.1,?_⟩
  simp only
  rw [Z1m (R1.so e),if_pos rfl]
 have kk:∀ y,(((Z.put d s 0).put e u 0).nd y).k=(Z.nd y).k:=fun y=>by
  have q:∀ a b:Int,a.toNat=b.toNat→Z.nd a=Z.nd b:=fun a b w=>by unfold Tz.nd;rw [w]
  have k1:∀ y,((Z.put d s 0).nd y).k=(Z.nd y).k:=fun y=>by
   rw [f1 y];split
   · rename_i w;rw [q y d w]
   · rfl
  rw [f2 y];split
  · rename_i w;simp only;rw [k1 e,q y e w]
  · exact k1 y
 have R3:=R2.put e2.1 u H.ns i hi2 (by rw [kk];exact hik)
 have f3:=fun y=>Z0v (Z:=(Z.put d s 0).put e u 0) (d:=e) (i:=i) (s:=u) (by simp only [Z0h];exact he1) y
 rw [e2.2,e1.2,H.hs]at R3
 unfold Tz.mvR
 by_cases hj:j=0
 · rw [if_pos hj]
   refine R3.mono (Nat.le_refl _) (Nat.le_refl _) (fun y hy _=>?_)
   rw [hj,if_neg (show ¬(0:Int)=y by omega)]
   omega
 · rw [if_neg hj]
   obtain⟨j2,jk,jd,je⟩:=n2 hj
   have g:∀ y,y.toNat≠d.toNat→y.toNat≠e.toNat→((((Z.put d s 0).put e u 0).put e u i).nd y)=Z.nd y:=fun y w1 w2=>by
    rw [f3 y,if_neg w2,f2 y,if_neg w2,f1 y,if_neg w1]
   have gj:=g j (by omega) (by omega)
   have hlj:1≤(Z.nd j).ln:=by
    obtain⟨y,q1,q2,q3⟩:=Z3u (l:=(Z.nd e).nm) (s:=u) (by rw [H.hu];exact hj)
    have c:=Z4a Z.N e.toNat y q1
    rw [q3,H.hu]at c
    have:=h.ln j (by omega) jk
    have:=hx j j2
    omega
   have R4:=R3.lnk (i:=j) (by rw [gj];exact jk) (-1) (by rw [gj];have:=h.lx j;omega)
   have R5:(((((Z.put d s 0).put e u 0).put e u i).lnk j (-1))).okD m (n+1) x:=R4.mono (Nat.le_refl _) (Nat.le_refl _) (fun y hy _=>by
    rw [if_neg (show ¬(0:Int)=y by omega)]
    by_cases w:j=y
    · rw [if_pos (show j=y from w),if_pos (show y=j from w.symm)];omega
    · rw [if_neg (show ¬j=y from w),if_neg (show ¬y=j from fun q=>w q.symm)];omega)
   have f4:=Z2a (Z:=((Z.put d s 0).put e u 0).put e u i) (i:=j) (y:= -1) (by simp only [Z0h];exact(h.live jk).2) j
   rw [if_pos rfl,gj]at f4
   exact R5.gone (by rw [f4];exact jk) (hx j j2) j2 (by rw [f4];exact H.je hj)
end
theorem Z2m:∀ j:Int,2≤j→x0 j=0:=fun j hj=>by unfold x0;rw [if_neg (by omega)]
theorem Za2 {Z:Tz} {m n:Nat} {x:Int→Int} (h:Z.okD m n x) {o:Oz} (hE:Z.rnE o=0) (hne:Z.paI o.p≠Z.paI o.q):Z.mvOk (Z.paD o.p) (lsS o.p) (Z.paI o.p) (Z.paD o.q) (lsS o.q) (Z.paI o.q):=by
 unfold Tz.rnE at hE
 by_cases h0:Z.reE2 o=0
 · rw [if_pos h0,if_neg hne]at hE
   unfold Tz.reE2 at h0
   by_cases h1:Z.reE1 o=0
   · rw [if_pos h1]at h0
     by_cases h2:Z.paE o.p 51=0
     · rw [if_pos h2]at h0
       by_cases h3:Z.paI o.p=0
       · rw [if_pos h3]at h0;cases h0
       · rw [if_neg h3]at h0
         by_cases h4:insB (spN o.p) (spN o.q)=true∧(Z.nd (Z.paI o.p)).k=2
         · rw [if_pos h4]at h0;cases h0
         · rw [if_neg h4]at h0
           obtain⟨a1,a2,a3⟩:=Z1e h (by decide) h2
           obtain⟨b1,b2,b3⟩:=Z1e h (by decide) h0
           unfold Tz.reE3 at hE
           split at hE
           · cases hE
           · split at hE
             · cases hE
             · split at hE
               · cases hE
               · split at hE
                 · cases hE
                 · rename_i c1 c2 c3 c4
                   refine⟨a1,b1,rfl,rfl,b2,?_,hne,fun hj=>?_,?_⟩
                   · rcases a3 with a3 | a3
                     · exact absurd a3 h3
                     · exact a3.1
                   · exact Decidable.byContradiction fun q=>c3 ⟨hj,q⟩
                   · have:=h.lx (Z.paI o.p);omega
     · rw [if_neg h2]at h0;exact absurd h0 h2
   · rw [if_neg h1]at h0;exact absurd h0 h1
 · rw [if_neg h0]at hE;exact absurd hE h0
section
variable {Z : Tz} {m n : Nat} {x : Int → Int}
theorem Zel {k d:Int} {s:List UInt8} (hd:d.toNat < Z.N.length):(Z.mkN k d s).nd Z.top=⟨k,1, [], []⟩:=by
 have ht:Z.top.toNat=Z.N.length:=by unfold Tz.top;omega
 have hlc:(Z.come k).N.length=Z.N.length+1:=by unfold Tz.come;simp
 unfold Tz.mkN
 rw [Z2a (by rw [Z0h,hlc];omega),if_pos rfl,Z0v (by rw [hlc];omega),if_neg (by omega),Z2p,if_pos ht]
 rfl
theorem Z1y (h:Z.okD m n x) {i:Int} (h0:(Z.nd i).k≠0) (h2:(Z.nd i).k≠2):(Z.nd i).k=1:=by
 rcases h.kd i with e | e | e
 · exact absurd e h0
 · exact e
 · exact absurd e h2
theorem Z7t (h:Z.okD m n x) {i:Int} (h1:(Z.nd i).k=1):2≤i:=by
 have:=(h.live (i:=i) (by rw [h1];decide)).1
 have:i≠1:=fun e=>by rw [e,h.rt]at h1;cases h1
 omega
theorem Zf7 (d:List Int) (p n:Int) (hp:0≤p):rdC d p n≤max 0 (d.length - p):=by unfold rdC;omega
theorem Z6g {Z:Tz} (h:Z.okD m n x):x0 Z.top=0:=Z2m _ (by have:=h.two;unfold Tz.top;omega)
theorem Zct {o:Oz} (hE:Z.opE o=0):flOk o.fl=true∧Z.paE o.p 43=0∧Z.opF (Z.paI o.p) o.fl=0:=by
 unfold Tz.opE at hE
 split at hE
 · rename_i h1
   split at hE
   · rename_i h2;exact⟨h1,h2,hE⟩
   · rename_i h2;exact absurd hE h2
 · cases hE
theorem Zf3 {i f:Int} (hE:Z.opF i f=0):(i≠0→(Z.nd i).k≠2)∧fdFr Z.t≠8:=by
 unfold Tz.opF at hE
 split at hE
 · rename_i h1
   split at hE
   · cases hE
   · split at hE
     · cases hE
     · rename_i h3;exact⟨fun e=>absurd h1 e,h3⟩
 · split at hE
   · cases hE
   · split at hE
     · cases hE
     · rename_i h2
       split at hE
       · cases hE
       · rename_i h3;exact⟨fun _=>h2,h3⟩
theorem Z84 (h:Z.ok n) {o:Oz} (hE:Z.opE o=0):((Z.opS1 (Z.paD o.p) (lsS o.p) (Z.paI o.p))).okD (n+3) (n+1) x0∧((Z.opS1 (Z.paD o.p) (lsS o.p) (Z.paI o.p)).nd (Z.opJ (Z.paI o.p))).k=1:=by
 obtain⟨h1,h2,h3⟩:=Zct hE
 obtain⟨p1,p2,p3⟩:=Z1e h (by decide) h2
 obtain⟨f1,f2⟩:=Zf3 h3
 unfold Tz.opS1 Tz.opJ
 by_cases e:Z.paI o.p=0
 · rw [if_pos e,if_pos e]
   exact⟨Zcr h (.inl rfl) p1 p2 e (Z6g h),by rw [Zel (h.live (by rw [p1];decide)).2]⟩
 · rw [if_neg e,if_neg e]
   rcases p3 with p3 | p3
   · exact absurd p3 e
   · exact⟨h.mono (by omega) (by omega) (fun _ _ _=>rfl),Z1y h p3.2 (f1 e)⟩
theorem Zf2 (h:Z.okD m n x) {j f:Int} (hj:(Z.nd j).k=1):(Z.opS2 j f).okD m n x∧((Z.opS2 j f).nd j).k=1:=by
 unfold Tz.opS2
 split
 · refine⟨h.dat hj [] (by simp) (fun b hb=>by cases hb),?_⟩
   unfold Tz.dat
   rw [Z24 (h.live (by rw [hj];decide)).2,if_pos rfl];exact hj
 · exact⟨h,hj⟩
theorem Zgq (h:Z.ok n) {o:Oz} (hE:Z.opE o=0):(Z.opS o).ok (n+1):=by
 obtain⟨a1,a2⟩:=Z84 h hE
 obtain⟨b1,b2⟩:=Zf2 a1 (f:=o.fl) a2
 have hf:=Z2c (Zct hE).1
 unfold Tz.opS Tz.opS3
 exact Zdp b1 b2 (by omega)
theorem Zfk (h:Z.okD m n x) (hx:∀ j,2≤j→x j=0) {o:Oz} (hE:Z04 Z.t o.fd=0):(Z.clS o).okD m n x:=by
 obtain⟨f,g1,g2,g3,_⟩:=Z1l h hE
 unfold Tz.clS
 rw [g2]
 have i2:=Z7t h g3
 exact(Z7k h o.fd).gone (i:=f.i) (by show(Z.nd f.i).k≠0;rw [g3];decide) (hx _ i2) i2 (h.fi f.i g3)
theorem Zgs (h:Z.okD m n x) {o:Oz} (hE:Z.reE o=0):(Z.reS o).okD m n x:=by
 have hg:Z04 Z.t o.fd=0:=by
  unfold Tz.reE at hE;split at hE
  · rename_i e;exact e
  · cases hE
 obtain⟨f,g1,g2,g3,g4,g5,_⟩:=Z1l h hg
 unfold Tz.reS
 rw [g2]
 have:=Zf7 (Z.nd f.i).d f.p o.n g4
 have:=h.dl f.i
 exact Z6r h _ _ (by omega)
theorem Z7f {o:Oz} (hE:Z.wrE o=0):Z04 Z.t o.fd=0∧(Z01 Z.t o.fd).p+o.d.length≤48640∧o.d.length≤4096∧¬(Z01 Z.t o.fd).m < 2:=by
 unfold Tz.wrE at hE
 split at hE
 · rename_i e
   split at hE
   · cases hE
   · rename_i e3
     split at hE
     · cases hE
     · rename_i e4
       split at hE
       · cases hE
       · rename_i e2;exact⟨e,by omega,by omega,e3⟩
 · cases hE
theorem Zha (h:Z.okD m n x) {o:Oz} (hE:Z.wrE o=0) (hb:∀ b ∈ o.d,0≤b∧b≤255):(Z.wrS o).okD m n x:=by
 obtain⟨h1,h2,_⟩:=Z7f hE
 obtain⟨f,g1,g2,g3,g4,g5,_⟩:=Z1l h h1
 unfold Tz.wrS
 split
 · exact h
 · rw [g2]at h2 ⊢
   refine Z6r (h.dat g3 _ ?_ (Z8k (h.db f.i) _ hb)) _ _ h2
   rw [Ze6]
   have:=h.dl f.i
   omega
theorem Zh4 (h:Z.okD m n x) {o:Oz} (hE:Z.skE o=0):(Z.skS o).okD m n x:=by
 unfold Tz.skE at hE
 split at hE
 · split at hE
   · cases hE
   · rename_i e;exact Z6r h _ _ (by omega)
 · cases hE
theorem Zfl (h:Z.okD m n x) {o:Oz} (hE:Z.cuE o=0):(Z.wa o.p).2=0∧(Z.nd (Z.wa o.p).1).k=1∧0≤o.n∧o.n≤48640:=by
 unfold Tz.cuE at hE
 split at hE
 · rename_i e
   split at hE
   · cases hE
   · rename_i e2
     split at hE
     · cases hE
     · split at hE
       · cases hE
       · exact⟨e,Z1y h (Z26 h e) e2,by omega,by omega⟩
 · rename_i e;exact absurd hE e
theorem Zfm (h:Z.okD m n x) {o:Oz} (hE:Z.cuE o=0):(Z.cuS o).okD m n x:=by
 obtain⟨h1,h2,h3,h4⟩:=Zfl h hE
 exact h.dat h2 _ (by rw [Z3s];omega) (Z3g (h.db _) _)
theorem Zg7 {o:Oz} (hE:Z.mdE o=0):Z.paE o.p 41=0∧Z.paI o.p=0:=by
 unfold Tz.mdE at hE
 split at hE
 · rename_i e
   split at hE
   · rename_i e2;exact⟨e,e2⟩
   · cases hE
 · rename_i e;exact absurd hE e
theorem Zg8 (h:Z.ok n) {o:Oz} (hE:Z.mdE o=0):(Z.mdS o).ok (n+1):=by
 obtain⟨h1,h2⟩:=Zg7 hE
 obtain⟨p1,p2,p3⟩:=Z1e h (by decide) h1
 exact Zcr h (.inr rfl) p1 p2 h2 (Z6g h)
theorem Zgt {o:Oz} (hE:Z.rmE o=0):Z.paE o.p 51=0∧Z.paI o.p≠0∧(Z.nd (Z.paI o.p)).k=2∧(Z.nd (Z.paI o.p)).nm= []:=by
 unfold Tz.rmE at hE
 split at hE
 · rename_i e
   split at hE
   · cases hE
   · rename_i e2
     split at hE
     · rename_i e3
       split at hE
       · rename_i e4;exact⟨e,e2,e3,e4⟩
       · cases hE
     · cases hE
 · rename_i e;exact absurd hE e
theorem Zh7 {o:Oz} (hE:Z.ulE o=0):Z.paE o.p 43=0∧Z.paI o.p≠0∧(Z.nd (Z.paI o.p)).k≠2:=by
 unfold Tz.ulE at hE
 split at hE
 · rename_i e
   split at hE
   · cases hE
   · rename_i e2
     split at hE
     · cases hE
     · rename_i e3;exact⟨e,e2,e3⟩
 · rename_i e;exact absurd hE e
theorem Zbk (h:Z.okD m n x) (hx:∀ j,2≤j→x j=0) {o:Oz} {r:Int} (hr:r≠0) (h1:Z.paE o.p r=0) (h2:Z.paI o.p≠0) (h3:(Z.nd (Z.paI o.p)).nm= []):(Z.unS o).okD m n x:=by
 obtain⟨p1,p2,p3⟩:=Z1e h hr h1
 rcases p3 with p3 | p3
 · exact absurd p3 h2
 · exact Zcu h p1 rfl p3.1 hx (.inl h3)
theorem Zgu (h:Z.okD m n x) (hx:∀ j,2≤j→x j=0) {o:Oz} (hE:Z.rmE o=0):(Z.unS o).okD m n x:=by
 obtain⟨h1,h2,h3,h4⟩:=Zgt hE
 exact Zbk h hx (by decide) h1 h2 h4
theorem Zh8 (h:Z.okD m n x) (hx:∀ j,2≤j→x j=0) {o:Oz} (hE:Z.ulE o=0):(Z.unS o).okD m n x:=by
 obtain⟨h1,h2,h3⟩:=Zh7 hE
 obtain⟨p1,p2,p3⟩:=Z1e h (by decide) h1
 rcases p3 with p3 | p3
 · exact absurd p3 h2
 · exact Zbk h hx (by decide) h1 h2 (h.fi _ (Z1y h p3.2 h3))
theorem Zg5 (h:Z.okD m n x) {o:Oz} (hE:Z.liE o=0):(Z.wa o.p).2=0∧(Z.nd (Z.wa o.p).1).k=1∧Z.paE o.q 41=0∧Z.paI o.q=0∧(Z.nd (Z.wa o.p).1).ln < 200:=by
 unfold Tz.liE at hE
 split at hE
 · rename_i e
   split at hE
   · cases hE
   · rename_i e2
     split at hE
     · rename_i e3
       split at hE
       · rename_i e4
         split at hE
         · cases hE
         · have:=h.lx (Z.wa o.p).1
           exact⟨e,Z1y h (Z26 h e) e2,e3,e4,by omega⟩
       · cases hE
     · rename_i e3;exact absurd hE e3
 · rename_i e;exact absurd hE e
theorem Zg6 (h:Z.okD m n x) {o:Oz} (hE:Z.liE o=0):(Z.liS o).okD m (n+1) x:=by
 obtain⟨h1,h2,h3,h4,h5⟩:=Zg5 h hE
 obtain⟨p1,p2,p3⟩:=Z1e h (by decide) h3
 exact Zap h p1 p2 h4 (Z7t h h2) (by rw [h2];decide) h5
theorem Zgv (h:Z.okD m n x) (hx:∀ j,2≤j→x j=0) {o:Oz} (hE:Z.rnE o=0):(Z.rnS o).okD m (n+1) x:=by
 unfold Tz.rnS
 split
 · exact h.mono (Nat.le_refl _) (Nat.le_succ _) (fun _ _ _=>rfl)
 · rename_i e
   have H:=Za2 h hE e
   rw [Zcs h hx H]
   exact Zet h H hx
theorem Zai (h:Z.ok n) (o:Oz) (hb:∀ b ∈ o.d,0≤b∧b≤255):(Z.do1 o).ok (n+1):=by
 have up:∀ {Y:Tz},Y.okD (n+2) n x0→Y.ok (n+1):=fun h=>h.mono (by omega) (by omega) (fun _ _ _=>rfl)
 have up1:∀ {Y:Tz},Y.okD (n+2) (n+1) x0→Y.ok (n+1):=fun h=>h.mono (by omega) (by omega) (fun _ _ _=>rfl)
 unfold Tz.do1
 by_cases hE:Z.doE o=0
 · rw [if_pos hE]
   unfold Tz.doE at hE
   unfold Tz.doS
   by_cases k1:o.k=1
   · rw [if_pos k1]at hE ⊢;exact Zgq h hE
   rw [if_neg k1]at hE ⊢
   by_cases k2:o.k=2
   · rw [if_pos k2]at hE ⊢;exact up (Zfk h Z2m hE)
   rw [if_neg k2]at hE ⊢
   by_cases k3:o.k=3
   · rw [if_pos k3]at hE ⊢;exact up (Zgs h hE)
   rw [if_neg k3]at hE ⊢
   by_cases k4:o.k=4
   · rw [if_pos k4]at hE ⊢;exact up (Zha h hE hb)
   rw [if_neg k4]at hE ⊢
   by_cases k5:o.k=5
   · rw [if_pos k5]at hE ⊢;exact up (Zh4 h hE)
   rw [if_neg k5]at hE ⊢
   by_cases k6:o.k=6
   · rw [if_pos k6]at hE ⊢;exact up (Zfm h hE)
   rw [if_neg k6]at hE ⊢
   by_cases k7:o.k=7
   · rw [if_pos k7]at hE ⊢;exact Zg8 h hE
   rw [if_neg k7]at hE ⊢
   by_cases k8:o.k=8
   · rw [if_pos k8]at hE ⊢;exact up (Zgu h Z2m hE)
   rw [if_neg k8]at hE ⊢
   by_cases k9:o.k=9
   · rw [if_pos k9]at hE ⊢;exact up1 (Zg6 h hE)
   rw [if_neg k9]at hE ⊢
   by_cases k10:o.k=10
   · rw [if_pos k10]at hE ⊢;exact up (Zh8 h Z2m hE)
   rw [if_neg k10]at hE ⊢
   by_cases k11:o.k=11
   · rw [if_pos k11]at hE ⊢;exact up1 (Zgv h Z2m hE)
   rw [if_neg k11]
   exact up h
 · rw [if_neg hE];exact up h
end
theorem Z80 (F:Nat→Value) (n i:Nat) (v:Value):((List.range n).map F).set i v=(List.range n).map (fun j=>if j=i then v else F j):=by
 apply List.ext_getElem
 · simp
 · intro j h1 h2
   simp only [List.length_set,List.length_map,List.length_range]at h1
   rw [List.getElem_set]
   simp only [List.getElem_map,List.getElem_range]
   by_cases e:i=j
   · subst e;simp
   · rw [if_neg e,if_neg (fun h=>e h.symm)]
theorem Z21 (F:Nat→Value) {n i:Nat} (h:i < n):((List.range n).map F)[i]? =some (F i):=by
 rw [List.getElem?_map,List.getElem?_range h];rfl
def Rfn (w:World) (g n:Nat) (F:Nat→Value):Prop:=Cs w g ((List.range n).map F)
section
variable {w w' : World} {g n : Nat} {F : Nat → Value} {U : Nat → Prop}
theorem Rfn.cell (h:Rfn w g n F) {i:Nat} (hi:i < n):w.cell? ⟨g,i,none⟩=some (F i):=Cs.cell h i _ (Z21 F hi)
theorem Rfn.fz (h:Rfn w g n F) (i:Nat):w.frozen? ⟨g,i,none⟩=false:=Cs.frozen h i
theorem Rfn.lt (h:Rfn w g n F):g < w.heap.size:=Cs.lt h
theorem Rfn.step (h:Rfn w g n F) (k:Stp U w w') (hg:¬U g):Rfn w' g n F:=Cs.step h k hg
theorem Rfn.set (h:Rfn w g n F) (i:Nat) (v:Value) (hv:v.oneCell'=true):Rfn (w.setCell ⟨g,i,none⟩ v) g n (fun j=>if j=i then v else F j):=by
 have:=Cs.set h i v hv
 rw [Z80]at this
 exact this
end
def pv (t:FT) (q:Nat→Nat) (i:Nat):Value:= .pointer ((t i).map fun _=>⟨q i,0,none⟩)
theorem Z9g {t:FT} {q:Nat→Nat} {i:Nat} (h:t i=none):pv t q i= .pointer none:=by unfold pv;rw [h];rfl
theorem Z9h {t:FT} {q:Nat→Nat} {i:Nat} {f:Fl} (h:t i=some f):pv t q i= .pointer (some ⟨q i,0,none⟩):=by unfold pv;rw [h];rfl
theorem Zgr {t:FT} {q:Nat→Nat} {i b:Nat} {f:Fl} :pv (fdUp t i (some f)) (fun j=>if j=i then b else q j)=fun j=>if j=i then .pointer (some ⟨b,0,none⟩)else pv t q j:=by
 funext j
 unfold pv fdUp
 by_cases e:j=i
 · simp [e]
 · simp [e]
theorem Z79 {t:FT} {q:Nat→Nat} {i:Nat} :pv (fdUp t i none) q=fun j=>if j=i then .pointer none else pv t q j:=by
 funext j
 unfold pv fdUp
 by_cases e:j=i
 · simp [e]
 · simp [e]
theorem Zds {t:FT} {q:Nat→Nat} {i:Nat} {f f':Fl} (h:t i=some f):pv (fdUp t i (some f')) q=pv t q:=by
 funext j
 unfold pv fdUp
 by_cases e:j=i
 · subst e;simp [h]
 · simp [e]
structure Fx (w:World) (U:Nat→Prop) (g:Nat) (q:Nat→Nat) (t:FT):Prop where
 u:U g
 low:∀ x,U x→x < w.heap.size
 row:Rfn w g 8 (pv t q)
 fl:∀ i f,i < 8→t i=some f→U (q i)∧q i≠g∧Cs w (q i) f.cs
 inj:∀ i j,i < 8→j < 8→(t i).isSome=true→(t j).isSome=true→q i=q j→i=j
section
variable {w w' : World} {g : Nat} {U F : Nat → Prop} {q : Nat → Nat} {t : FT}
theorem Fx.step (h:Fx w U g q t) (k:Stp F w w') (hF:∀ x,U x→¬F x):Fx w' U g q t:=
 ⟨h.u,fun x hx=>Nat.lt_of_lt_of_le (h.low x hx) k.size,h.row.step k (hF g h.u),fun i f hi ht=>by
   obtain⟨h1,h2,h3⟩:=h.fl i f hi ht
   exact⟨h1,h2,h3.step k (hF _ h1)⟩,h.inj⟩
theorem Fx.later (h:Fx w U g q t) (k:Below w.heap.size w w'):Fx w' U g q t:=h.step (Stp.of_below k (fun _=>False)) (fun _ _=>id)
theorem Fx.at0 (h:Fx w U g q t) {i:Nat} (hi:i < 8) (ht:t i=none):w.cell? ⟨g,i,none⟩=some (.pointer none):=by rw [h.row.cell hi,Z9g ht]
theorem Fx.at1 (h:Fx w U g q t) {i:Nat} {f:Fl} (hi:i < 8) (ht:t i=some f):w.cell? ⟨g,i,none⟩=some (.pointer (some ⟨q i,0,none⟩)):=by rw [h.row.cell hi,Z9h ht]
theorem Fx.put (h:Fx w U g q t) {i b:Nat} {f:Fl} (hi:i < 8) (hb:Cs w b f.cs) (hU:¬U b):Fx (w.setCell ⟨g,i,none⟩ (.pointer (some ⟨b,0,none⟩))) (fun x=>U x∨x=b) g (fun j=>if j=i then b else q j) (fdUp t i (some f)):=by
 have hs:Stp (fun x=>x=g) w (w.setCell ⟨g,i,none⟩ (.pointer (some ⟨b,0,none⟩))):=(Stp.refl (fun x=>x=g) w).setCell (p:=⟨g,i,none⟩) (.inl rfl) _
 have hbg:¬b=g:=fun e=>hU (e▸h.u)
 refine⟨.inl h.u,fun x hx=>?_,?_,fun j f' hj ht=>?_,fun j k hj hk h1 h2 e=>?_⟩
 · have:=hs.size
   rcases hx with e | e
   · have:=h.low x e;omega
   · have:=hb.lt;omega
 · rw [Zgr];exact h.row.set i _ rfl
 · unfold fdUp at ht
   by_cases e:j=i
   · rw [if_pos e]at ht ⊢
     injection ht with ht;subst ht
     exact⟨.inr rfl,hbg,hb.step hs hbg⟩
   · rw [if_neg e]at ht ⊢
     obtain⟨h1,h2,h3⟩:=h.fl j f' hj ht
     exact⟨.inl h1,h2,h3.step hs h2⟩
 · unfold fdUp at h1 h2
   by_cases e1:j=i
   · by_cases e2:k=i
     · omega
     · simp only [e1,if_true,e2,if_false]at e h2
       obtain⟨f',hf⟩:=Option.isSome_iff_exists.1 h2
       exact absurd (e▸(h.fl k f' hk hf).1) hU
   · by_cases e2:k=i
     · simp only [e2,if_true,e1,if_false]at e h1
       obtain⟨f',hf⟩:=Option.isSome_iff_exists.1 h1
       exact absurd (e▸(h.fl j f' hj hf).1) hU
     · simp only [e1,e2,if_false]at e h1 h2
       exact h.inj j k hj hk h1 h2 e
theorem Fx.free (h:Fx w U g q t) {i:Nat} :Fx (w.setCell ⟨g,i,none⟩ (.pointer none)) U g q (fdUp t i none):=by
 have hs:Stp (fun x=>x=g) w (w.setCell ⟨g,i,none⟩ (.pointer none)):=(Stp.refl (fun x=>x=g) w).setCell (p:=⟨g,i,none⟩) (.inl rfl) _
 refine⟨h.u,fun x hx=>Nat.lt_of_lt_of_le (h.low x hx) hs.size,?_,fun j f' hj ht=>?_,fun j k hj hk h1 h2 e=>?_⟩
 · rw [Z79];exact h.row.set i _ rfl
 · unfold fdUp at ht
   by_cases e:j=i
   · rw [if_pos e]at ht;cases ht
   · rw [if_neg e]at ht
     obtain⟨h1,h2,h3⟩:=h.fl j f' hj ht
     exact⟨h1,h2,h3.step hs h2⟩
 · unfold fdUp at h1 h2
   by_cases e1:j=i
   · rw [if_pos e1]at h1;cases h1
   · by_cases e2:k=i
     · rw [if_pos e2]at h2;cases h2
     · rw [if_neg e1]at h1;rw [if_neg e2]at h2
       exact h.inj j k hj hk h1 h2 e
theorem Fx.pos (h:Fx w U g q t) {i:Nat} {f:Fl} (hi:i < 8) (ht:t i=some f) (p:Int):Fx (w.setCell ⟨q i,1,none⟩ (.int .i64 p)) U g q (fdUp t i (some ⟨f.i,p,f.m⟩)):=by
 obtain⟨a1,a2,a3⟩:=h.fl i f hi ht
 have hs:Stp (fun x=>x=q i) w (w.setCell ⟨q i,1,none⟩ (.int .i64 p)):=(Stp.refl (fun x=>x=q i) w).setCell (p:=⟨q i,1,none⟩) (.inl rfl) _
 refine⟨h.u,fun x hx=>Nat.lt_of_lt_of_le (h.low x hx) hs.size,?_,fun j f' hj ht'=>?_,fun j k hj hk h1 h2 e=>?_⟩
 · rw [Zds ht];exact h.row.step hs (fun e=>a2 e.symm)
 · unfold fdUp at ht'
   by_cases e:j=i
   · rw [if_pos e]at ht'
     injection ht' with ht';subst ht';subst e
     exact⟨a1,a2,a3.set 1 _ rfl⟩
   · rw [if_neg e]at ht'
     obtain⟨h1,h2,h3⟩:=h.fl j f' hj ht'
     exact⟨h1,h2,h3.step hs (fun e'=>e (h.inj j i hj hi (by rw [ht'];rfl) (by rw [ht];rfl) e'))⟩
 · have hh:∀ j,(fdUp t i (some ⟨f.i,p,f.m⟩) j).isSome=true→(t j).isSome=true:=fun j h1=>by
    unfold fdUp at h1
    by_cases e1:j=i
    · subst e1;rw [ht];rfl
    · rw [if_neg e1]at h1;exact h1
   exact h.inj j k hj hk (hh j h1) (hh k h2) e
end
def Fd (w:World) (U:Nat→Prop) (g:Nat) (t:FT):Prop:=∃ q,Fx w U g q t
section
variable {w w' : World} {g : Nat} {U F : Nat → Prop} {t : FT}
theorem Fd.low (h:Fd w U g t):∀ x,U x→x < w.heap.size:=by obtain⟨q,h⟩:=h;exact h.low
theorem Fd.step (h:Fd w U g t) (k:Stp F w w') (hF:∀ x,U x→¬F x):Fd w' U g t:=by obtain⟨q,h⟩:=h;exact⟨q,h.step k hF⟩
theorem Fd.made (w:World) (T:TypeId):Fd (w.alloc (.cells (List.replicate 8 (Value.pointer none)).toArray T)) (fun x=>x=w.heap.size) w.heap.size Z3l:=by
 refine⟨fun _=>0,⟨rfl,fun x e=>by subst e;simp,?_,(fun i f _ h=>by cases h),(fun i j _ _ h _ _=>by cases h)⟩⟩
 have:(List.range 8).map (pv Z3l (fun _=>0))=List.replicate 8 (Value.pointer none):=rfl
 unfold Rfn
 rw [this]
 exact Cs.made w _ T (fun v hv=>by rw [(List.mem_replicate.1 hv).2];rfl)
end
def FdG (U:Nat→Prop) (g:Nat) (t':FT) (w w':World):Prop:=∃ U',Fd w' U' g t'∧Stp U w w'∧Grew U U' w w'
theorem Z5t (w:World):
 Calls Tryz.prog 24 #[] w fun e w'=>∃ g U,e= .returned (.pointer (some ⟨g,0,none⟩))∧w.heap.size≤g∧Below w.heap.size w w'∧Fd w' U g Z3l∧∀ x,U x→w.heap.size≤x:=by
 have hz:∀ u:World,(Instr.build 94 #[]).run Tryz.prog u= .ok (.agg (List.replicate 8 (Value.pointer none)).toArray) u:=fun u=>by kernel_rfl
 go_enter Tryz.func24,Tryz.ntmps24
 go_wp2
 go_returns
 exact⟨_,_,rfl,Nat.le_refl _,by go_grown,Fd.made w _,fun x e=>by rw [e];exact Nat.le_refl _⟩
theorem Z6x {w:World} {U:Nat→Prop} {g:Nat} {t:FT} (h:Fd w U g t):
 Calls Tryz.prog 131 #[.pointer (some ⟨g,0,none⟩)] w fun e w'=>e= .returned (.int .i64 (fdFr t:Int))∧w=w':=by
 obtain⟨q,h⟩:=h
 go_enter Tryz.func131,Tryz.ntmps131
 go_wp2
 go_loopw [3] (fun x wr=>∃ k:Nat,k≤8∧x= .int .i64 (k:Int)∧w=wr∧∀ i,i < k→(t i).isSome=true) (fun x _=>8 - (intOf x).toNat)
 case atStart=>exact⟨0,Nat.zero_le _,rfl,rfl,fun i hi=>by omega⟩
 case round=>
  obtain⟨k,hk,rfl,rfl,hs⟩:=hrel
  by_cases hlt:(k:Int) < 8
  · cases ht:t k with
    | none=>
      have c0:=h.at0 (i:=k) (by omega) ht
      have hf:(fdFr t:Int)=(k:Int):=by rw [Z4d (by omega) hs (.inr ht)]
      have hf':Hid ((fdFr t:Int)=(k:Int)):=hf
      clear hf
      have a0:(0:Int)≤(k:Int):=by omega
      go_wp2
      go_returns
      exact⟨by rw [hf'.out];simp,rfl⟩
    | some f=>
      have c0:=h.at1 (i:=k) (by omega) ht
      have a0:(0:Int)≤(k:Int):=by omega
      have hs':∀ i,i < k+1→(t i).isSome=true:=fun i hi=>by
       by_cases e:i=k
       · subst e;rw [ht];rfl
       · exact hs i (by omega)
      clear hs
      go_wp2
      go_roundw
      case rel=>exact⟨k+1,by omega,by go_num,by simp,hs'⟩
      case measure=>simp [intOf];omega
  · have hk8:k=8:=by omega
    subst hk8
    have hf:(fdFr t:Int)=8:=by rw [Z4d (Nat.le_refl _) hs (.inl rfl)];rfl
    have hf':Hid ((fdFr t:Int)=8):=hf
    clear hf
    go_wp2
    go_returns
    exact⟨by rw [hf'.out];simp,rfl⟩
theorem Z7n {w:World} {U:Nat→Prop} {g:Nat} {q:Nat→Nat} {t:FT} (h:Fx w U g q t) (x:Int) (hx:Z0u t x=none):
 Calls Tryz.prog 108 #[.pointer (some ⟨g,0,none⟩), .int .i64 x] w fun e w'=>e= .returned (.tuple #[.pointer none, .int .i64 46])∧w=w':=by
 by_cases h1:x < 0
 · go_enter Tryz.func108,Tryz.ntmps108
   go_wp2
   go_returns
   exact⟨rfl,rfl⟩
 · by_cases h2:x ≥ 8
   · have h3:¬x < 0:=h1
     go_enter Tryz.func108,Tryz.ntmps108
     go_wp2
     go_returns
     exact⟨rfl,rfl⟩
   · obtain⟨k,rfl⟩:∃ k:Nat,x=(k:Int):=⟨x.toNat,by omega⟩
     have hk:k < 8:=by omega
     rw [Z29 hk]at hx
     have c0:=h.at0 hk hx
     have a0:(0:Int)≤(k:Int):=by omega
     have a1:(k:Int) < 8:=by omega
     have a2:¬(8:Int)≤(k:Int):=by omega
     have a3:¬(k:Int) < 0:=by omega
     clear hx h1 h2
     go_enter Tryz.func108,Tryz.ntmps108
     go_wp2
     go_returns
     exact⟨rfl,rfl⟩
theorem Z5e {w:World} {U:Nat→Prop} {g:Nat} {q:Nat→Nat} {t:FT} (h:Fx w U g q t) (k:Nat) (hk:k < 8) {f:Fl} (hx:t k=some f):
 Calls Tryz.prog 108 #[.pointer (some ⟨g,0,none⟩), .int .i64 (k:Int)] w fun e w'=>e= .returned (.tuple #[.pointer (some ⟨q k,0,none⟩), .int .i64 0])∧w=w':=by
 have c0:=h.at1 hk hx
 have a0:(0:Int)≤(k:Int):=by omega
 have a1:(k:Int) < 8:=by omega
 have a2:¬(8:Int)≤(k:Int):=by omega
 have a3:¬(k:Int) < 0:=by omega
 clear hx
 go_enter Tryz.func108,Tryz.ntmps108
 go_wp2
 go_returns
 exact⟨rfl,rfl⟩
end Go.Proofs.YtdnjddpfcgginaaGreat
