/-
  Texts of my own, joined: no statement is proved here.
-/
import Derived.Test.YtdnjddpfcgginaaGreatJaq
set_option linter.unusedSimpArgs false
set_option linter.unusedVariables false
namespace Go.Proofs.YtdnjddpfcgginaaGreat
open Go.ChangeShapes Go.WideShapes Go.ChangeAt Go.RowKit
set_option maxRecDepth 100000
set_option maxHeartbeats 8000000 in
theorem Zev {w:World} {U:Nat→Prop} {y n:Nat} {Z:Tz} (h:Dx w U y Z) (hz:Z.ok n) (hn:n≤900) (o:Oz) (s:Sv) (hk:o.k=10) {E:Int} (hE:E≠0)
 (hP:∀ w',Below w.heap.size w w'→Calls Tryz.prog 66 #[.pointer (some ⟨y,0,none⟩), .string (str o.p), .int .i64 43] w' fun e u=>(∃ d t,e= .returned (.tuple #[.int .i64 d, .string t, .int .i64 E]))∧Below w'.heap.size w' u):
 Calls Tryz.prog 31 #[.pointer (some ⟨y,0,none⟩), .agg (opC o s).toArray] w fun e w'=>RetY e U y Z E w w':=by
 have qE:(E != 0)=true:=by simpa using hE
 go_enter Tryz.func31,Tryz.ntmps31
 go_wp2_with (first
  | (refine Z05 (by rfl) _ (by rfl) o s (by rfl) ?_;intro g1 w1 z1 z2 r1 b1
     have Bc:=b1
     have v1:=b1.size
     try clear c10
     try clear c11
     have c10:=r1.cell 0 _ rfl
     have c11:=r1.cell 1 _ rfl
     try rw [hk]at c10)
  | (refine Z02 (by rfl) (by rfl) ?_;intro g2 w2 z3 z4 r2 b2
     replace Bc:=Z00q Bc b2 (Nat.le_refl _)
     have v2:=b2.size
     try (replace r1:=r1.later b2)
     try (replace r2:=r2.later b2)
     try clear c10
     try clear c11
     have c10:=r1.cell 0 _ rfl
     have c11:=r1.cell 1 _ rfl
     try rw [hk]at c10)
  | (go_at_call 66;refine(hP _ Bc).mono ?_;clear hP;rintro e wp ⟨⟨dd,tt,rfl⟩,bp⟩
     replace Bc:=Z00q Bc bp (Nat.le_refl _)
     have vp:=bp.size
     try (replace r1:=r1.later bp)
     try (replace r2:=r2.later bp)
     try clear c10
     try clear c11
     have c10:=r1.cell 0 _ rfl
     have c11:=r1.cell 1 _ rfl
     try rw [hk]at c10)
  | (go_at_call 35;refine(Z0b _ _).mono ?_;rintro e wf ⟨rfl,bf⟩
     replace Bc:=Z00q Bc bf (Nat.le_refl _)
     replace r2:=r2.later bf)
  | (refine Z03 (by rfl) _ _ (by rfl) g2 (by rfl) (anC E 0 nilV nilV 0 0 0) E (Z09 E) (by rfl) _ r2 rfl ?_;intro w9 r9 s9))
 exact bodyPost_ret (Z0a Z06 Tryz.results31 rfl r9 rfl) rfl ⟨anC E 0 nilV nilV 0 0 0,rfl,Z09 E,Z0e h Bc (by omega) s9⟩
set_option maxHeartbeats 8000000 in
theorem Zew {w:World} {U:Nat→Prop} {y n:Nat} {Z:Tz} (h:Dx w U y Z) (hz:Z.ok n) (hn:n≤900) (o:Oz) (s:Sv) (hk:o.k=10) {D:Int} {a:List UInt8}
 (hP:∀ w',Below w.heap.size w w'→Calls Tryz.prog 66 #[.pointer (some ⟨y,0,none⟩), .string (str o.p), .int .i64 43] w' fun e u=>e= .returned (.tuple #[.int .i64 D, .string (str a), .int .i64 0])∧Below w'.heap.size w' u)
 (hF:∀ w',Below w.heap.size w w'→Calls Tryz.prog 67 #[.pointer (some ⟨y,0,none⟩), .int .i64 D, .string (str a)] w' fun e u=>e= .returned (.int .i64 0)∧w'=u):
 Calls Tryz.prog 31 #[.pointer (some ⟨y,0,none⟩), .agg (opC o s).toArray] w fun e w'=>RetY e U y Z 40 w w':=by
 go_enter Tryz.func31,Tryz.ntmps31
 go_wp2_with (first
  | (refine Z05 (by rfl) _ (by rfl) o s (by rfl) ?_;intro g1 w1 z1 z2 r1 b1
     have Bc:=b1
     have v1:=b1.size
     try clear c10
     try clear c11
     have c10:=r1.cell 0 _ rfl
     have c11:=r1.cell 1 _ rfl
     try rw [hk]at c10)
  | (refine Z02 (by rfl) (by rfl) ?_;intro g2 w2 z3 z4 r2 b2
     replace Bc:=Z00q Bc b2 (Nat.le_refl _)
     have v2:=b2.size
     try (replace r1:=r1.later b2)
     try (replace r2:=r2.later b2)
     try clear c10
     try clear c11
     have c10:=r1.cell 0 _ rfl
     have c11:=r1.cell 1 _ rfl
     try rw [hk]at c10)
  | (go_at_call 66;refine(hP _ Bc).mono ?_;clear hP;rintro e wp ⟨rfl,bp⟩
     replace Bc:=Z00q Bc bp (Nat.le_refl _)
     have vp:=bp.size
     try (replace r1:=r1.later bp)
     try (replace r2:=r2.later bp)
     try clear c10
     try clear c11
     have c10:=r1.cell 0 _ rfl
     have c11:=r1.cell 1 _ rfl
     try rw [hk]at c10)
  | (go_at_call 67;refine(hF _ Bc).mono ?_;clear hF;rintro e u ⟨rfl,rfl⟩)
  | (go_at_call 35;refine(Z0b _ _).mono ?_;rintro e wf ⟨rfl,bf⟩
     replace Bc:=Z00q Bc bf (Nat.le_refl _)
     replace r2:=r2.later bf)
  | (refine Z03 (by rfl) _ _ (by rfl) g2 (by rfl) (anC 40 0 nilV nilV 0 0 0) 40 (Z09 40) (by rfl) _ r2 rfl ?_;intro w9 r9 s9))
 exact bodyPost_ret (Z0a Z06 Tryz.results31 rfl r9 rfl) rfl ⟨anC 40 0 nilV nilV 0 0 0,rfl,Z09 40,Z0e h Bc (by omega) s9⟩
set_option maxHeartbeats 8000000 in
theorem Zeu {w:World} {U:Nat→Prop} {y n:Nat} {Z:Tz} (h:Dx w U y Z) (hz:Z.ok n) (hn:n≤900) (o:Oz) (s:Sv) (hk:o.k=10) {D i:Int} {a:List UInt8} (hi:1≤i∧i.toNat < Z.N.length) (hk2:(Z.nd i).k=2)
 (hP:∀ w',Below w.heap.size w w'→Calls Tryz.prog 66 #[.pointer (some ⟨y,0,none⟩), .string (str o.p), .int .i64 43] w' fun e u=>e= .returned (.tuple #[.int .i64 D, .string (str a), .int .i64 0])∧Below w'.heap.size w' u)
 (hF:∀ w',Below w.heap.size w w'→Calls Tryz.prog 67 #[.pointer (some ⟨y,0,none⟩), .int .i64 D, .string (str a)] w' fun e u=>e= .returned (.int .i64 i)∧w'=u):
 Calls Tryz.prog 31 #[.pointer (some ⟨y,0,none⟩), .agg (opC o s).toArray] w fun e w'=>RetY e U y Z 43 w w':=by
 have hU:=h.low
 obtain⟨fb,r,c,A,F,sd,sn,H,hUU⟩:=h
 obtain⟨ki,rfl⟩:∃ ki:Nat,i=(ki:Int):=⟨i.toNat,by omega⟩
 have hik:ki < Z.N.length:=by simpa using hi.2
 have a7:(ki:Int) < (Z.N.length:Int):=by omega
 have a6:(0:Int)≤(ki:Int):=by omega
 have qi:((ki:Int)==0)=false:=by simp;omega
 have qi2:((ki:Int) != 0)=true:=by simp;omega
 go_enter Tryz.func31,Tryz.ntmps31
 go_wp2_with (first
  | (refine Z05 (by rfl) _ (by rfl) o s (by rfl) ?_;intro g1 w1 z1 z2 r1 b1
     have Bc:=b1
     have v1:=b1.size
     try clear c10
     try clear c11
     have c10:=r1.cell 0 _ rfl
     have c11:=r1.cell 1 _ rfl
     try rw [hk]at c10)
  | (refine Z02 (by rfl) (by rfl) ?_;intro g2 w2 z3 z4 r2 b2
     replace Bc:=Z00q Bc b2 (Nat.le_refl _)
     have v2:=b2.size
     try (replace r1:=r1.later b2)
     try (replace r2:=r2.later b2)
     try clear c10
     try clear c11
     have c10:=r1.cell 0 _ rfl
     have c11:=r1.cell 1 _ rfl
     try rw [hk]at c10)
  | (go_at_call 66;refine(hP _ Bc).mono ?_;clear hP;rintro e wp ⟨rfl,bp⟩
     replace Bc:=Z00q Bc bp (Nat.le_refl _)
     have vp:=bp.size
     try (replace r1:=r1.later bp)
     try (replace r2:=r2.later bp)
     try clear c10
     try clear c11
     have c10:=r1.cell 0 _ rfl
     have c11:=r1.cell 1 _ rfl
     try rw [hk]at c10)
  | (go_at_call 67;refine(hF _ Bc).mono ?_;clear hF;rintro e u ⟨rfl,rfl⟩
     have q0:=(H.later Bc).c0
     have qk:=(H.later Bc).nk hik
     have qn:=(H.later Bc).nnm hik
     rw [hk2]at qk)
  | (go_at_call 35;refine(Z0b _ _).mono ?_;rintro e wf ⟨rfl,bf⟩
     replace Bc:=Z00q Bc bf (Nat.le_refl _)
     replace r2:=r2.later bf)
  | (refine Z03 (by rfl) _ _ (by rfl) g2 (by rfl) (anC 43 0 nilV nilV 0 0 0) 43 (Z09 43) (by rfl) _ r2 rfl ?_;intro w9 r9 s9))
 exact bodyPost_ret (Z0a Z06 Tryz.results31 rfl r9 rfl) rfl ⟨anC 43 0 nilV nilV 0 0 0,rfl,Z09 43,(Z0e ⟨fb,r,c,A,F,sd,sn,H,hUU⟩ Bc (by omega) s9)⟩
set_option maxHeartbeats 8000000 in
theorem Zex {w:World} {U:Nat→Prop} {y n:Nat} {Z:Tz} (h:Dx w U y Z) (hz:Z.ok n) (hn:n≤900) (o:Oz) (s:Sv) (hk:o.k=10) {D i:Int} {a:List UInt8} (hi:1≤i∧i.toNat < Z.N.length) (hk2:(Z.nd i).k=1) {Z1 Z2:Tz}
 (hP:∀ w',Below w.heap.size w w'→Calls Tryz.prog 66 #[.pointer (some ⟨y,0,none⟩), .string (str o.p), .int .i64 43] w' fun e u=>e= .returned (.tuple #[.int .i64 D, .string (str a), .int .i64 0])∧Below w'.heap.size w' u)
 (hF:∀ w',Below w.heap.size w w'→Calls Tryz.prog 67 #[.pointer (some ⟨y,0,none⟩), .int .i64 D, .string (str a)] w' fun e u=>e= .returned (.int .i64 i)∧w'=u)
 (hPut:∀ w',Below w.heap.size w w'→Calls Tryz.prog 75 #[.pointer (some ⟨y,0,none⟩), .int .i64 D, .string (str a), .int .i64 0] w' fun e u=>e= .returned (.tuple #[])∧DxG U y Z1 w' u)
 (hLess:∀ U' w',Dx w' U' y Z1→Calls Tryz.prog 76 #[.pointer (some ⟨y,0,none⟩), .int .i64 i] w' fun e u=>e= .returned (.tuple #[])∧DxG U' y Z2 w' u):
 Calls Tryz.prog 31 #[.pointer (some ⟨y,0,none⟩), .agg (opC o s).toArray] w fun e w'=>RetY e U y Z2 0 w w':=by
 have hU:=h.low
 obtain⟨fb,r,c,A,F,sd,sn,H,hUU⟩:=h
 obtain⟨ki,rfl⟩:∃ ki:Nat,i=(ki:Int):=⟨i.toNat,by omega⟩
 have hik:ki < Z.N.length:=by simpa using hi.2
 have a7:(ki:Int) < (Z.N.length:Int):=by omega
 have a6:(0:Int)≤(ki:Int):=by omega
 have qi:((ki:Int)==0)=false:=by simp;omega
 have qi2:((ki:Int) != 0)=true:=by simp;omega
 go_enter Tryz.func31,Tryz.ntmps31
 go_wp2_with (first
  | (refine Z05 (by rfl) _ (by rfl) o s (by rfl) ?_;intro g1 w1 z1 z2 r1 b1
     have Bc:=b1
     have v1:=b1.size
     try clear c10
     try clear c11
     have c10:=r1.cell 0 _ rfl
     have c11:=r1.cell 1 _ rfl
     try rw [hk]at c10)
  | (refine Z02 (by rfl) (by rfl) ?_;intro g2 w2 z3 z4 r2 b2
     replace Bc:=Z00q Bc b2 (Nat.le_refl _)
     have v2:=b2.size
     try (replace r1:=r1.later b2)
     try (replace r2:=r2.later b2)
     try clear c10
     try clear c11
     have c10:=r1.cell 0 _ rfl
     have c11:=r1.cell 1 _ rfl
     try rw [hk]at c10)
  | (go_at_call 66;refine(hP _ Bc).mono ?_;clear hP;rintro e wp ⟨rfl,bp⟩
     replace Bc:=Z00q Bc bp (Nat.le_refl _)
     have vp:=bp.size
     try (replace r1:=r1.later bp)
     try (replace r2:=r2.later bp)
     try clear c10
     try clear c11
     have c10:=r1.cell 0 _ rfl
     have c11:=r1.cell 1 _ rfl
     try rw [hk]at c10)
  | (go_at_call 67;refine(hF _ Bc).mono ?_;clear hF;rintro e u ⟨rfl,rfl⟩
     have q0:=(H.later Bc).c0
     have qk:=(H.later Bc).nk hik
     have qn:=(H.later Bc).nnm hik
     rw [hk2]at qk)
  | (go_at_call 75;refine(hPut _ Bc).mono ?_;rintro e wm ⟨rfl,Gm⟩
     obtain⟨Um,tm,sm,em⟩:=Gm
     have nU:¬Um g2:=fun e=>by
      rcases em g2 e with c | c
      · have:=hU g2 c;omega
      · have:=r2.lt;omega
     replace r2:=r2.step sm (fun e=>by have:=hU g2 e;omega))
  | (go_at_call 76;refine(hLess _ _ tm).mono ?_;rintro e wl ⟨rfl,Gl⟩
     replace r2:=r2.step Gl.stp nU
     have GG:=DxG.join sm em Gl)
  | (refine Z03 (by rfl) _ _ (by rfl) g2 (by rfl) anZ 0 Z0c (by rfl) _ r2 rfl ?_;intro w9 r9 s9))
 exact bodyPost_ret (Z0a Z06 Tryz.results31 rfl r9 rfl) rfl ⟨anZ,rfl,Z0c,Z0z hU Bc GG (by omega) (by omega) s9⟩
section
variable {Z : Tz} {m n : Nat} {x : Int → Int}
theorem Z23 {a b:Int} (h:a.toNat=b.toNat):Z.nd a=Z.nd b:=by unfold Tz.nd;rw [h]
theorem Z3n {d i:Int} {s:List UInt8} (hd:d.toNat < Z.N.length) (y:Int):((Z.put d s i).nd y).k=(Z.nd y).k∧((Z.put d s i).nd y).ln=(Z.nd y).ln:=by
 rw [Z0v hd]
 split
 · rename_i e;rw [Z23 (Z:=Z) e];exact⟨rfl,rfl⟩
 · exact⟨rfl,rfl⟩
theorem Z86 {d i:Int} {s:List UInt8} (hd:d.toNat < Z.N.length) (y:Int):((Z.put d s i).nd y).nm=if y.toNat=d.toNat then ptL (Z.nd y).nm s i else(Z.nd y).nm:=by
 rw [Z0v hd]
 split
 · rename_i e;rw [Z23 (Z:=Z) e]
 · rfl
theorem Zgd {d i:Int} {s:List UInt8} (hd:d.toNat < Z.N.length) (hi:i.toNat < Z.N.length) (y:Int):((Z.nam d s i).nd y).k=(Z.nd y).k∧((Z.nam d s i).nd y).nm=((Z.put d s i).nd y).nm:=by
 unfold Tz.nam
 rw [Z2a (by rw [Z0h];exact hi)]
 split
 · rename_i e
   rw [Z23 (Z:=Z.put d s i) e]
   refine⟨?_,rfl⟩
   rw [Z23 (Z:=Z) e];exact(Z3n hd i).1
 · exact⟨(Z3n hd y).1,rfl⟩
def Tz.mv1 (Z:Tz) (e:Int) (u:List UInt8) (j:Int):Tz:=if j=0 then Z else Z.un e u j
structure Tz.mvS (Z:Tz) (m n:Nat) (x:Int→Int) (d:Int) (s:List UInt8) (i e:Int) (u:List UInt8) (j:Int):Prop where
 a:(Z.mv1 e u j).okD m n x
 ae:((Z.mv1 e u j).nd e).k=2
 ai:((Z.mv1 e u j).nd i).k≠0
 b:((Z.mv1 e u j).nam e u i).okD m (n+1) x
 bd:(((Z.mv1 e u j).nam e u i).nd d).k=2
 bs:lk (((Z.mv1 e u j).nam e u i).nd d).nm s=i
theorem Zc1 (h:Z.okD m n x) (hx:∀ j,2≤j→x j=0) {d i e j:Int} {s u:List UInt8} (H:Z.mvOk d s i e u j):Z.mvS m n x d s i e u j:=by
 obtain⟨n1,n2⟩:=Z9u h H
 have hd0:=h.live (i:=d) (by rw [H.hd];decide)
 have he0:=h.live (i:=e) (by rw [H.he];decide)
 have hik:(Z.nd i).k≠0:=by have:=(Z2o h d (s:=s) (by rw [H.hs];have:=H.i2;omega)).2;rw [H.hs]at this;exact this
 have hi0:=h.live hik
 have hi2:=H.i2
 have hij:=H.ij
 -- the state ahead of the new name
 have A:(Z.mv1 e u j).okD m n x∧(Z.mv1 e u j).N.length=Z.N.length∧((Z.mv1 e u j).nd e).k=2∧lk ((Z.mv1 e u j).nd e).nm u=0∧((Z.mv1 e u j).nd i).k≠0∧((Z.mv1 e u j).nd i).ln < 200∧((Z.mv1 e u j).nd d).k=2∧lk ((Z.mv1 e u j).nd d).nm s=i:=by
  unfold Tz.mv1
  by_cases hj:j=0
  · rw [if_pos hj]
    exact⟨h,rfl,H.he,by rw [H.hu,hj],hik,H.ln,H.hd,H.hs⟩
  · rw [if_neg hj]
    obtain⟨j2,jk,jd,je⟩:=n2 hj
    have hj0:=h.live jk
    have q:=fun(y:Int) (hy:y.toNat≠j.toNat)=>Z82 (Z:=Z) (d:=e) (i:=j) (s:=u) he0.2 hj0.2 hy
    have qe:=q e (by omega)
    have qi:=q i (by omega)
    have qd:=q d (by omega)
    refine⟨Zcu h H.he H.hu j2 hx (.inl (H.je hj)),Zbl,?_,?_,?_,?_,?_,?_⟩
    · rw [qe,(Z3n he0.2 e).1];exact H.he
    · rw [qe,Z86 he0.2 e,if_pos rfl,Z1m (h.so e),if_pos rfl]
    · rw [qi,(Z3n he0.2 i).1];exact hik
    · rw [qi,(Z3n he0.2 i).2];exact H.ln
    · rw [qd,(Z3n he0.2 d).1];exact H.hd
    · rw [qd,Z86 he0.2 d]
      split
      · rename_i w
        have w2:d=e:=by omega
        rw [Z1m (h.so d),if_neg (n1 w2)];exact H.hs
      · exact H.hs
 obtain⟨a1,a2,a3,a4,a5,a6,a7,a8⟩:=A
 have k:=fun y=>Zgd (Z:=Z.mv1 e u j) (d:=e) (i:=i) (s:=u) (by rw [a2];exact he0.2) (by rw [a2];exact hi0.2) y
 refine⟨a1,a3,a5,Zap a1 a3 H.ns a4 hi2 a5 a6,by rw [(k d).1];exact a7,?_⟩
 rw [(k d).2,Z86 (by rw [a2];exact he0.2) d]
 split
 · rename_i w
   have w2:d=e:=by omega
   rw [Z1m (a1.so d),if_neg (n1 w2)];exact a8
 · exact a8
end
set_option maxRecDepth 100000
section
variable {w : World} {U : Nat → Prop} {y n : Nat} {Z : Tz}
theorem Z3c (h:Dx w U y Z) (hz:Z.ok n) {p:List UInt8} (hp:p.length≤5000) {root:Int} (hr:root≠0):
 ∀ w',Below w.heap.size w w'→Calls Tryz.prog 66 #[.pointer (some ⟨y,0,none⟩), .string (str p), .int .i64 root] w' fun e u=>(∃ d t,e= .returned (.tuple #[.int .i64 d, .string t, .int .i64 (Z.paE p root)]))∧Below w'.heap.size w' u:=fun w' b=>
 (Z5o (h.later b) hz p hp root hr).mono (fun e u h=>⟨by obtain⟨d,s,h1,_⟩:=h.1;exact⟨d,s,h1⟩,h.2⟩)
theorem Z3d (h:Dx w U y Z) (hz:Z.ok n) {p:List UInt8} (hp:p.length≤5000) {root:Int} (hr:root≠0) (hE:Z.paE p root=0):
 ∀ w',Below w.heap.size w w'→Calls Tryz.prog 66 #[.pointer (some ⟨y,0,none⟩), .string (str p), .int .i64 root] w' fun e u=>e= .returned (.tuple #[.int .i64 (Z.paD p), .string (str (lsS p)), .int .i64 0])∧Below w'.heap.size w' u:=fun w' b=>
 (Z5o (h.later b) hz p hp root hr).mono (fun e u h=>⟨by obtain⟨d,s,h1,h2⟩:=h.1;obtain⟨rfl,rfl⟩:=h2 hE;rw [h1,hE],h.2⟩)
theorem Z3b (h:Dx w U y Z) {d:Int} (hd:0≤d∧d.toNat < Z.N.length) (t:List UInt8):
 ∀ w',Below w.heap.size w w'→Calls Tryz.prog 67 #[.pointer (some ⟨y,0,none⟩), .int .i64 d, .string (str t)] w' fun e u=>e= .returned (.int .i64 (lk (Z.nd d).nm t))∧w'=u:=fun w' b=>by
 obtain⟨fb,r,c,A,F,sd,sn,H,hUU⟩:=h
 exact Z72 (H.later b) hd t
theorem Z18 (hz:Z.ok n) {i:Int} (hk:(Z.nd i).k≠0):0≤i∧i.toNat < Z.N.length:=by
 have:=hz.live hk;exact⟨by omega,this.2⟩
theorem Z87 (h:Dx w U y Z) (hz:Z.ok n) (hn:n≤900) {d:Int} (hd:(Z.nd d).k≠0) (t:List UInt8) (id:Int):
 ∀ w',Below w.heap.size w w'→Calls Tryz.prog 75 #[.pointer (some ⟨y,0,none⟩), .int .i64 d, .string (str t), .int .i64 id] w' fun e u=>e= .returned (.tuple #[])∧DxG U y (Z.put d t id) w' u:=fun w' b=>
 Z3x (h.later b) (Z18 hz hd) (hz.so d) (by have:=hz.nl d;omega) t id
theorem Z9b (h:Dx w U y Z) (hz:Z.ok n) (hn:n≤900) {d:Int} (hd:(Z.nd d).k≠0) (t:List UInt8) (kd:Int):
 ∀ w',Below w.heap.size w w'→Calls Tryz.prog 68 #[.pointer (some ⟨y,0,none⟩), .int .i64 d, .string (str t), .int .i64 kd] w' fun e u=>e= .returned (.int .i64 Z.top)∧DxG U y (Z.mkN kd d t) w' u:=fun w' b=>
 Zb3 (h.later b) (by have:=hz.few;omega) (Z18 hz hd) (hz.so d) (by have:=hz.nl d;omega) t kd
theorem Z98 (hz:Z.ok n) {d i:Int} (hd:(Z.nd d).k≠0) (hi:(Z.nd i).k≠0) (t:List UInt8):
 ∀ U' w',Dx w' U' y (Z.put d t 0)→Calls Tryz.prog 76 #[.pointer (some ⟨y,0,none⟩), .int .i64 i] w' fun e u=>e= .returned (.tuple #[])∧DxG U' y (Z.un d t i) w' u:=fun U' w' h=>
 Z74 h ⟨(Z18 hz hi).1,by rw [Z0h];exact(Z18 hz hi).2⟩ (by rw [(Z3n (Z18 hz hd).2 i).2];exact hz.lx i)
theorem Za1 (h:Dx w U y Z) (hz:Z.ok n) (hn:n≤900) (o:Oz) (ho:o.wfo) (s:Sv) (hk:o.k=7):
 Calls Tryz.prog 31 #[.pointer (some ⟨y,0,none⟩), .agg (opC o s).toArray] w fun e w'=>RetY e U y (if Z.mdE o=0 then Z.mdS o else Z) (Z.mdE o) w w':=by
 by_cases h1:Z.paE o.p 41=0
 · obtain⟨p1,p2,p3⟩:=Z1e hz (by decide) h1
   have hdk:(Z.nd (Z.paD o.p)).k≠0:=by rw [p1];decide
   have hP:=Z3d h hz ho.p (by decide) h1
   have hF:=Z3b h (Z18 hz hdk) (lsS o.p)
   by_cases h2:Z.paI o.p=0
   · have e1:Z.mdE o=0:=by unfold Tz.mdE;rw [if_pos h1,if_pos h2]
     rw [e1,if_pos rfl]
     rw [show lk (Z.nd (Z.paD o.p)).nm (lsS o.p)=0 from h2]at hF
     exact Zgg h hz hn o s hk hP hF (Z9b h hz hn hdk (lsS o.p) 2)
   · have e1:Z.mdE o=41:=by unfold Tz.mdE;rw [if_pos h1,if_neg h2]
     rw [e1,if_neg (by decide)]
     exact Zgf h hz hn o s hk h2 hP hF
 · have e1:Z.mdE o=Z.paE o.p 41:=by unfold Tz.mdE;rw [if_neg h1]
   rw [e1,if_neg h1]
   exact Zge h hz hn o s hk h1 (Z3c h hz ho.p (by decide))
theorem Za4 (h:Dx w U y Z) (hz:Z.ok n) (hn:n≤900) (o:Oz) (ho:o.wfo) (s:Sv) (hk:o.k=8):
 Calls Tryz.prog 31 #[.pointer (some ⟨y,0,none⟩), .agg (opC o s).toArray] w fun e w'=>RetY e U y (if Z.rmE o=0 then Z.unS o else Z) (Z.rmE o) w w':=by
 by_cases h1:Z.paE o.p 51=0
 · obtain⟨p1,p2,p3⟩:=Z1e hz (by decide) h1
   have hdk:(Z.nd (Z.paD o.p)).k≠0:=by rw [p1];decide
   have hP:=Z3d h hz ho.p (by decide) h1
   have hF:=Z3b h (Z18 hz hdk) (lsS o.p)
   by_cases h2:Z.paI o.p=0
   · have e1:Z.rmE o=40:=by unfold Tz.rmE;rw [if_pos h1,if_pos h2]
     rw [e1,if_neg (by decide)]
     rw [show lk (Z.nd (Z.paD o.p)).nm (lsS o.p)=0 from h2]at hF
     exact Zgk h hz hn o s hk hP hF
   · rcases p3 with p3 | p3
     · exact absurd p3 h2
     have hi:1≤Z.paI o.p∧(Z.paI o.p).toNat < Z.N.length:=⟨by omega,(Z18 hz p3.2).2⟩
     by_cases h3:(Z.nd (Z.paI o.p)).k=2
     · by_cases h4:(Z.nd (Z.paI o.p)).nm= []
       · have e1:Z.rmE o=0:=by unfold Tz.rmE;rw [if_pos h1,if_neg h2,if_pos h3,if_pos h4]
         rw [e1,if_pos rfl]
         exact Zgl h hz hn o s hk hi h3 h4 hP hF (Z87 h hz hn hdk (lsS o.p) 0) (Z98 hz hdk p3.2 (lsS o.p))
       · have e1:Z.rmE o=44:=by unfold Tz.rmE;rw [if_pos h1,if_neg h2,if_pos h3,if_neg h4]
         rw [e1,if_neg (by decide)]
         exact Zgj h hz hn o s hk hi h3 h4 hP hF
     · have e1:Z.rmE o=42:=by unfold Tz.rmE;rw [if_pos h1,if_neg h2,if_neg h3]
       rw [e1,if_neg (by decide)]
       exact Zgi h hz hn o s hk hi (Z1y hz p3.2 h3) hP hF
 · have e1:Z.rmE o=Z.paE o.p 51:=by unfold Tz.rmE;rw [if_neg h1]
   rw [e1,if_neg h1]
   exact Zgh h hz hn o s hk h1 (Z3c h hz ho.p (by decide))
theorem Z8x (h:Dx w U y Z) (hz:Z.ok n) (hn:n≤900) (o:Oz) (ho:o.wfo) (s:Sv) (hk:o.k=10):
 Calls Tryz.prog 31 #[.pointer (some ⟨y,0,none⟩), .agg (opC o s).toArray] w fun e w'=>RetY e U y (if Z.ulE o=0 then Z.unS o else Z) (Z.ulE o) w w':=by
 by_cases h1:Z.paE o.p 43=0
 · obtain⟨p1,p2,p3⟩:=Z1e hz (by decide) h1
   have hdk:(Z.nd (Z.paD o.p)).k≠0:=by rw [p1];decide
   have hP:=Z3d h hz ho.p (by decide) h1
   have hF:=Z3b h (Z18 hz hdk) (lsS o.p)
   by_cases h2:Z.paI o.p=0
   · have e1:Z.ulE o=40:=by unfold Tz.ulE;rw [if_pos h1,if_pos h2]
     rw [e1,if_neg (by decide)]
     rw [show lk (Z.nd (Z.paD o.p)).nm (lsS o.p)=0 from h2]at hF
     exact Zew h hz hn o s hk hP hF
   · rcases p3 with p3 | p3
     · exact absurd p3 h2
     have hi:1≤Z.paI o.p∧(Z.paI o.p).toNat < Z.N.length:=⟨by omega,(Z18 hz p3.2).2⟩
     by_cases h3:(Z.nd (Z.paI o.p)).k=2
     · have e1:Z.ulE o=43:=by unfold Tz.ulE;rw [if_pos h1,if_neg h2,if_pos h3]
       rw [e1,if_neg (by decide)]
       exact Zeu h hz hn o s hk hi h3 hP hF
     · have e1:Z.ulE o=0:=by unfold Tz.ulE;rw [if_pos h1,if_neg h2,if_neg h3]
       rw [e1,if_pos rfl]
       exact Zex h hz hn o s hk hi (Z1y hz p3.2 h3) hP hF (Z87 h hz hn hdk (lsS o.p) 0) (Z98 hz hdk p3.2 (lsS o.p))
 · have e1:Z.ulE o=Z.paE o.p 43:=by unfold Tz.ulE;rw [if_neg h1]
   rw [e1,if_neg h1]
   exact Zev h hz hn o s hk h1 (Z3c h hz ho.p (by decide))
end
set_option maxRecDepth 100000
set_option maxHeartbeats 8000000 in
theorem lk_e {w:World} {U:Nat→Prop} {y n:Nat} {Z:Tz} (h:Dx w U y Z) (hz:Z.ok n) (hn:n≤900) (o:Oz) (s:Sv) {E i:Int} (hE:E≠0)
 (hW:∀ w',Below w.heap.size w w'→Calls Tryz.prog 21 #[.pointer (some ⟨y,0,none⟩), .string (str o.p)] w' fun e u=>e= .returned (.tuple #[.int .i64 i, .int .i64 E])∧Below w'.heap.size w' u):
 Calls Tryz.prog 32 #[.pointer (some ⟨y,0,none⟩), .agg (opC o s).toArray] w fun e w'=>RetY e U y Z E w w':=by
 have qE:(E != 0)=true:=by simpa using hE
 go_enter Tryz.func32,Tryz.ntmps32
 go_wp2_with (first
  | (refine Z05 (by rfl) _ (by rfl) o s (by rfl) ?_;intro g1 w1 z1 z2 r1 b1
     have Bc:=b1
     have v1:=b1.size
     try clear c11
     try clear c12
     have c11:=r1.cell 1 _ rfl
     have c12:=r1.cell 2 _ rfl)
  | (refine Z02 (by rfl) (by rfl) ?_;intro g2 w2 z3 z4 r2 b2
     replace Bc:=Z00q Bc b2 (Nat.le_refl _)
     have v2:=b2.size
     try (replace r1:=r1.later b2)
     try (replace r2:=r2.later b2)
     try clear c11
     try clear c12
     have c11:=r1.cell 1 _ rfl
     have c12:=r1.cell 2 _ rfl)
  | (go_at_call 21;refine(hW _ Bc).mono ?_;clear hW;rintro e ww ⟨rfl,bw⟩
     replace Bc:=Z00q Bc bw (Nat.le_refl _)
     have vw:=bw.size
     try (replace r1:=r1.later bw)
     try (replace r2:=r2.later bw)
     try clear c11
     try clear c12
     have c11:=r1.cell 1 _ rfl
     have c12:=r1.cell 2 _ rfl)
  | (go_at_call 35;refine(Z0b _ _).mono ?_;rintro e wf ⟨rfl,bf⟩
     replace Bc:=Z00q Bc bf (Nat.le_refl _)
     replace r2:=r2.later bf)
  | (refine Z03 (by rfl) _ _ (by rfl) g2 (by rfl) (anC E 0 nilV nilV 0 0 0) E (Z09 E) (by rfl) _ r2 rfl ?_;intro w9 r9 s9))
 exact bodyPost_ret (Z0a Z06 Tryz.results32 rfl r9 rfl) rfl ⟨anC E 0 nilV nilV 0 0 0,rfl,Z09 E,Z0e h Bc (by omega) s9⟩
set_option maxHeartbeats 8000000 in
theorem lk_d {w:World} {U:Nat→Prop} {y n:Nat} {Z:Tz} (h:Dx w U y Z) (hz:Z.ok n) (hn:n≤900) (o:Oz) (s:Sv) {i:Int} (hi:1≤i∧i.toNat < Z.N.length) (hk2:(Z.nd i).k=2)
 (hW:∀ w',Below w.heap.size w w'→Calls Tryz.prog 21 #[.pointer (some ⟨y,0,none⟩), .string (str o.p)] w' fun e u=>e= .returned (.tuple #[.int .i64 i, .int .i64 0])∧Below w'.heap.size w' u):
 Calls Tryz.prog 32 #[.pointer (some ⟨y,0,none⟩), .agg (opC o s).toArray] w fun e w'=>RetY e U y Z 43 w w':=by
 have hU:=h.low
 obtain⟨fb,r,c,A,F,sd,sn,H,hUU⟩:=h
 obtain⟨ki,rfl⟩:∃ ki:Nat,i=(ki:Int):=⟨i.toNat,by omega⟩
 have hik:ki < Z.N.length:=by simpa using hi.2
 have a7:(ki:Int) < (Z.N.length:Int):=by omega
 have a6:(0:Int)≤(ki:Int):=by omega
 go_enter Tryz.func32,Tryz.ntmps32
 go_wp2_with (first
  | (refine Z05 (by rfl) _ (by rfl) o s (by rfl) ?_;intro g1 w1 z1 z2 r1 b1
     have Bc:=b1
     have v1:=b1.size
     try clear c11
     try clear c12
     have c11:=r1.cell 1 _ rfl
     have c12:=r1.cell 2 _ rfl)
  | (refine Z02 (by rfl) (by rfl) ?_;intro g2 w2 z3 z4 r2 b2
     replace Bc:=Z00q Bc b2 (Nat.le_refl _)
     have v2:=b2.size
     try (replace r1:=r1.later b2)
     try (replace r2:=r2.later b2)
     try clear c11
     try clear c12
     have c11:=r1.cell 1 _ rfl
     have c12:=r1.cell 2 _ rfl)
  | (go_at_call 21;refine(hW _ Bc).mono ?_;clear hW;rintro e ww ⟨rfl,bw⟩
     replace Bc:=Z00q Bc bw (Nat.le_refl _)
     have vw:=bw.size
     try (replace r1:=r1.later bw)
     try (replace r2:=r2.later bw)
     try clear c11
     try clear c12
     have c11:=r1.cell 1 _ rfl
     have c12:=r1.cell 2 _ rfl
     have q0:=(H.later Bc).c0
     have qk:=(H.later Bc).nk hik
     rw [hk2]at qk)
  | (go_at_call 35;refine(Z0b _ _).mono ?_;rintro e wf ⟨rfl,bf⟩
     replace Bc:=Z00q Bc bf (Nat.le_refl _)
     replace r2:=r2.later bf)
  | (refine Z03 (by rfl) _ _ (by rfl) g2 (by rfl) (anC 43 0 nilV nilV 0 0 0) 43 (Z09 43) (by rfl) _ r2 rfl ?_;intro w9 r9 s9))
 exact bodyPost_ret (Z0a Z06 Tryz.results32 rfl r9 rfl) rfl ⟨anC 43 0 nilV nilV 0 0 0,rfl,Z09 43,(Z0e ⟨fb,r,c,A,F,sd,sn,H,hUU⟩ Bc (by omega) s9)⟩
set_option maxHeartbeats 8000000 in
theorem lk_p {w:World} {U:Nat→Prop} {y n:Nat} {Z:Tz} (h:Dx w U y Z) (hz:Z.ok n) (hn:n≤900) (o:Oz) (s:Sv) {i:Int} (hi:1≤i∧i.toNat < Z.N.length) (hk2:(Z.nd i).k=1) {E:Int} (hE:E≠0)
 (hW:∀ w',Below w.heap.size w w'→Calls Tryz.prog 21 #[.pointer (some ⟨y,0,none⟩), .string (str o.p)] w' fun e u=>e= .returned (.tuple #[.int .i64 i, .int .i64 0])∧Below w'.heap.size w' u)
 (hP:∀ w',Below w.heap.size w w'→Calls Tryz.prog 66 #[.pointer (some ⟨y,0,none⟩), .string (str o.q), .int .i64 41] w' fun e u=>(∃ d t,e= .returned (.tuple #[.int .i64 d, .string t, .int .i64 E]))∧Below w'.heap.size w' u):
 Calls Tryz.prog 32 #[.pointer (some ⟨y,0,none⟩), .agg (opC o s).toArray] w fun e w'=>RetY e U y Z E w w':=by
 have qE:(E != 0)=true:=by simpa using hE
 have hU:=h.low
 obtain⟨fb,r,c,A,F,sd,sn,H,hUU⟩:=h
 obtain⟨ki,rfl⟩:∃ ki:Nat,i=(ki:Int):=⟨i.toNat,by omega⟩
 have hik:ki < Z.N.length:=by simpa using hi.2
 have a7:(ki:Int) < (Z.N.length:Int):=by omega
 have a6:(0:Int)≤(ki:Int):=by omega
 go_enter Tryz.func32,Tryz.ntmps32
 go_wp2_with (first
  | (refine Z05 (by rfl) _ (by rfl) o s (by rfl) ?_;intro g1 w1 z1 z2 r1 b1
     have Bc:=b1
     have v1:=b1.size
     try clear c11
     try clear c12
     have c11:=r1.cell 1 _ rfl
     have c12:=r1.cell 2 _ rfl)
  | (refine Z02 (by rfl) (by rfl) ?_;intro g2 w2 z3 z4 r2 b2
     replace Bc:=Z00q Bc b2 (Nat.le_refl _)
     have v2:=b2.size
     try (replace r1:=r1.later b2)
     try (replace r2:=r2.later b2)
     try clear c11
     try clear c12
     have c11:=r1.cell 1 _ rfl
     have c12:=r1.cell 2 _ rfl)
  | (go_at_call 21;refine(hW _ Bc).mono ?_;clear hW;rintro e ww ⟨rfl,bw⟩
     replace Bc:=Z00q Bc bw (Nat.le_refl _)
     have vw:=bw.size
     try (replace r1:=r1.later bw)
     try (replace r2:=r2.later bw)
     try clear c11
     try clear c12
     have c11:=r1.cell 1 _ rfl
     have c12:=r1.cell 2 _ rfl
     have q0:=(H.later Bc).c0
     have qk:=(H.later Bc).nk hik
     rw [hk2]at qk)
  | (go_at_call 66;refine(hP _ Bc).mono ?_;clear hP;rintro e wp ⟨⟨dd,tt,rfl⟩,bp⟩
     replace Bc:=Z00q Bc bp (Nat.le_refl _)
     have vp:=bp.size
     try (replace r1:=r1.later bp)
     try (replace r2:=r2.later bp)
     try clear c11
     try clear c12
     have c11:=r1.cell 1 _ rfl
     have c12:=r1.cell 2 _ rfl)
  | (go_at_call 35;refine(Z0b _ _).mono ?_;rintro e wf ⟨rfl,bf⟩
     replace Bc:=Z00q Bc bf (Nat.le_refl _)
     replace r2:=r2.later bf)
  | (refine Z03 (by rfl) _ _ (by rfl) g2 (by rfl) (anC E 0 nilV nilV 0 0 0) E (Z09 E) (by rfl) _ r2 rfl ?_;intro w9 r9 s9))
 exact bodyPost_ret (Z0a Z06 Tryz.results32 rfl r9 rfl) rfl ⟨anC E 0 nilV nilV 0 0 0,rfl,Z09 E,(Z0e ⟨fb,r,c,A,F,sd,sn,H,hUU⟩ Bc (by omega) s9)⟩
set_option maxHeartbeats 8000000 in
theorem lk_x {w:World} {U:Nat→Prop} {y n:Nat} {Z:Tz} (h:Dx w U y Z) (hz:Z.ok n) (hn:n≤900) (o:Oz) (s:Sv) {i:Int} (hi:1≤i∧i.toNat < Z.N.length) {D:Int} {a:List UInt8} (hk2:(Z.nd i).k=1) {j:Int} (hj:j≠0)
 (hW:∀ w',Below w.heap.size w w'→Calls Tryz.prog 21 #[.pointer (some ⟨y,0,none⟩), .string (str o.p)] w' fun e u=>e= .returned (.tuple #[.int .i64 i, .int .i64 0])∧Below w'.heap.size w' u)
 (hP:∀ w',Below w.heap.size w w'→Calls Tryz.prog 66 #[.pointer (some ⟨y,0,none⟩), .string (str o.q), .int .i64 41] w' fun e u=>e= .returned (.tuple #[.int .i64 D, .string (str a), .int .i64 0])∧Below w'.heap.size w' u)
 (hF:∀ w',Below w.heap.size w w'→Calls Tryz.prog 67 #[.pointer (some ⟨y,0,none⟩), .int .i64 D, .string (str a)] w' fun e u=>e= .returned (.int .i64 j)∧w'=u):
 Calls Tryz.prog 32 #[.pointer (some ⟨y,0,none⟩), .agg (opC o s).toArray] w fun e w'=>RetY e U y Z 41 w w':=by
 have qj:(j != 0)=true:=by simpa using hj
 have hU:=h.low
 obtain⟨fb,r,c,A,F,sd,sn,H,hUU⟩:=h
 obtain⟨ki,rfl⟩:∃ ki:Nat,i=(ki:Int):=⟨i.toNat,by omega⟩
 have hik:ki < Z.N.length:=by simpa using hi.2
 have a7:(ki:Int) < (Z.N.length:Int):=by omega
 have a6:(0:Int)≤(ki:Int):=by omega
 go_enter Tryz.func32,Tryz.ntmps32
 go_wp2_with (first
  | (refine Z05 (by rfl) _ (by rfl) o s (by rfl) ?_;intro g1 w1 z1 z2 r1 b1
     have Bc:=b1
     have v1:=b1.size
     try clear c11
     try clear c12
     have c11:=r1.cell 1 _ rfl
     have c12:=r1.cell 2 _ rfl)
  | (refine Z02 (by rfl) (by rfl) ?_;intro g2 w2 z3 z4 r2 b2
     replace Bc:=Z00q Bc b2 (Nat.le_refl _)
     have v2:=b2.size
     try (replace r1:=r1.later b2)
     try (replace r2:=r2.later b2)
     try clear c11
     try clear c12
     have c11:=r1.cell 1 _ rfl
     have c12:=r1.cell 2 _ rfl)
  | (go_at_call 21;refine(hW _ Bc).mono ?_;clear hW;rintro e ww ⟨rfl,bw⟩
     replace Bc:=Z00q Bc bw (Nat.le_refl _)
     have vw:=bw.size
     try (replace r1:=r1.later bw)
     try (replace r2:=r2.later bw)
     try clear c11
     try clear c12
     have c11:=r1.cell 1 _ rfl
     have c12:=r1.cell 2 _ rfl
     have q0:=(H.later Bc).c0
     have qk:=(H.later Bc).nk hik
     rw [hk2]at qk)
  | (go_at_call 66;refine(hP _ Bc).mono ?_;clear hP;rintro e wp ⟨rfl,bp⟩
     replace Bc:=Z00q Bc bp (Nat.le_refl _)
     have vp:=bp.size
     try (replace r1:=r1.later bp)
     try (replace r2:=r2.later bp)
     try clear c11
     try clear c12
     have c11:=r1.cell 1 _ rfl
     have c12:=r1.cell 2 _ rfl)
  | (go_at_call 67;refine(hF _ Bc).mono ?_;clear hF;rintro e u ⟨rfl,rfl⟩)
  | (go_at_call 35;refine(Z0b _ _).mono ?_;rintro e wf ⟨rfl,bf⟩
     replace Bc:=Z00q Bc bf (Nat.le_refl _)
     replace r2:=r2.later bf)
  | (refine Z03 (by rfl) _ _ (by rfl) g2 (by rfl) (anC 41 0 nilV nilV 0 0 0) 41 (Z09 41) (by rfl) _ r2 rfl ?_;intro w9 r9 s9))
 exact bodyPost_ret (Z0a Z06 Tryz.results32 rfl r9 rfl) rfl ⟨anC 41 0 nilV nilV 0 0 0,rfl,Z09 41,(Z0e ⟨fb,r,c,A,F,sd,sn,H,hUU⟩ Bc (by omega) s9)⟩
set_option maxHeartbeats 8000000 in
theorem lk_l {w:World} {U:Nat→Prop} {y n:Nat} {Z:Tz} (h:Dx w U y Z) (hz:Z.ok n) (hn:n≤900) (o:Oz) (s:Sv) {i:Int} (hi:1≤i∧i.toNat < Z.N.length) {D:Int} {a:List UInt8} (hk2:(Z.nd i).k=1) (hl:(Z.nd i).ln=200)
 (hW:∀ w',Below w.heap.size w w'→Calls Tryz.prog 21 #[.pointer (some ⟨y,0,none⟩), .string (str o.p)] w' fun e u=>e= .returned (.tuple #[.int .i64 i, .int .i64 0])∧Below w'.heap.size w' u)
 (hP:∀ w',Below w.heap.size w w'→Calls Tryz.prog 66 #[.pointer (some ⟨y,0,none⟩), .string (str o.q), .int .i64 41] w' fun e u=>e= .returned (.tuple #[.int .i64 D, .string (str a), .int .i64 0])∧Below w'.heap.size w' u)
 (hF:∀ w',Below w.heap.size w w'→Calls Tryz.prog 67 #[.pointer (some ⟨y,0,none⟩), .int .i64 D, .string (str a)] w' fun e u=>e= .returned (.int .i64 0)∧w'=u):
 Calls Tryz.prog 32 #[.pointer (some ⟨y,0,none⟩), .agg (opC o s).toArray] w fun e w'=>RetY e U y Z 48 w w':=by
 have hU:=h.low
 obtain⟨fb,r,c,A,F,sd,sn,H,hUU⟩:=h
 obtain⟨ki,rfl⟩:∃ ki:Nat,i=(ki:Int):=⟨i.toNat,by omega⟩
 have hik:ki < Z.N.length:=by simpa using hi.2
 have a7:(ki:Int) < (Z.N.length:Int):=by omega
 have a6:(0:Int)≤(ki:Int):=by omega
 go_enter Tryz.func32,Tryz.ntmps32
 go_wp2_with (first
  | (refine Z05 (by rfl) _ (by rfl) o s (by rfl) ?_;intro g1 w1 z1 z2 r1 b1
     have Bc:=b1
     have v1:=b1.size
     try clear c11
     try clear c12
     have c11:=r1.cell 1 _ rfl
     have c12:=r1.cell 2 _ rfl)
  | (refine Z02 (by rfl) (by rfl) ?_;intro g2 w2 z3 z4 r2 b2
     replace Bc:=Z00q Bc b2 (Nat.le_refl _)
     have v2:=b2.size
     try (replace r1:=r1.later b2)
     try (replace r2:=r2.later b2)
     try clear c11
     try clear c12
     have c11:=r1.cell 1 _ rfl
     have c12:=r1.cell 2 _ rfl)
  | (go_at_call 21;refine(hW _ Bc).mono ?_;clear hW;rintro e ww ⟨rfl,bw⟩
     replace Bc:=Z00q Bc bw (Nat.le_refl _)
     have vw:=bw.size
     try (replace r1:=r1.later bw)
     try (replace r2:=r2.later bw)
     try clear c11
     try clear c12
     have c11:=r1.cell 1 _ rfl
     have c12:=r1.cell 2 _ rfl
     have q0:=(H.later Bc).c0
     have qk:=(H.later Bc).nk hik
     rw [hk2]at qk)
  | (go_at_call 66;refine(hP _ Bc).mono ?_;clear hP;rintro e wp ⟨rfl,bp⟩
     replace Bc:=Z00q Bc bp (Nat.le_refl _)
     have vp:=bp.size
     try (replace r1:=r1.later bp)
     try (replace r2:=r2.later bp)
     try clear c11
     try clear c12
     have c11:=r1.cell 1 _ rfl
     have c12:=r1.cell 2 _ rfl)
  | (go_at_call 67;refine(hF _ Bc).mono ?_;clear hF;rintro e u ⟨rfl,rfl⟩
     have z0:=(H.later Bc).c0
     have zl:=(H.later Bc).nl hik
     have zf:=(H.later Bc).row.frozen (ki * 4+1)
     rw [hl]at zl)
  | (go_at_call 35;refine(Z0b _ _).mono ?_;rintro e wf ⟨rfl,bf⟩
     replace Bc:=Z00q Bc bf (Nat.le_refl _)
     replace r2:=r2.later bf)
  | (refine Z03 (by rfl) _ _ (by rfl) g2 (by rfl) (anC 48 0 nilV nilV 0 0 0) 48 (Z09 48) (by rfl) _ r2 rfl ?_;intro w9 r9 s9))
 exact bodyPost_ret (Z0a Z06 Tryz.results32 rfl r9 rfl) rfl ⟨anC 48 0 nilV nilV 0 0 0,rfl,Z09 48,(Z0e ⟨fb,r,c,A,F,sd,sn,H,hUU⟩ Bc (by omega) s9)⟩
set_option maxHeartbeats 8000000 in
theorem lk_y {w:World} {U:Nat→Prop} {y n:Nat} {Z:Tz} (h:Dx w U y Z) (hz:Z.ok n) (hn:n≤900) (o:Oz) (s:Sv) {i:Int} (hi:1≤i∧i.toNat < Z.N.length) {D:Int} {a:List UInt8} (hk2:(Z.nd i).k=1) (hl:0≤(Z.nd i).ln∧(Z.nd i).ln < 200) {Z2:Tz}
 (hW:∀ w',Below w.heap.size w w'→Calls Tryz.prog 21 #[.pointer (some ⟨y,0,none⟩), .string (str o.p)] w' fun e u=>e= .returned (.tuple #[.int .i64 i, .int .i64 0])∧Below w'.heap.size w' u)
 (hP:∀ w',Below w.heap.size w w'→Calls Tryz.prog 66 #[.pointer (some ⟨y,0,none⟩), .string (str o.q), .int .i64 41] w' fun e u=>e= .returned (.tuple #[.int .i64 D, .string (str a), .int .i64 0])∧Below w'.heap.size w' u)
 (hF:∀ w',Below w.heap.size w w'→Calls Tryz.prog 67 #[.pointer (some ⟨y,0,none⟩), .int .i64 D, .string (str a)] w' fun e u=>e= .returned (.int .i64 0)∧w'=u)
 (hPut:∀ U' w',Dx w' U' y (Z.lnk i 1)→Calls Tryz.prog 75 #[.pointer (some ⟨y,0,none⟩), .int .i64 D, .string (str a), .int .i64 i] w' fun e u=>e= .returned (.tuple #[])∧DxG U' y Z2 w' u):
 Calls Tryz.prog 32 #[.pointer (some ⟨y,0,none⟩), .agg (opC o s).toArray] w fun e w'=>RetY e U y Z2 0 w w':=by
 have hU:=h.low
 obtain⟨fb,r,c,A,F,sd,sn,H,hUU⟩:=h
 obtain⟨ki,rfl⟩:∃ ki:Nat,i=(ki:Int):=⟨i.toNat,by omega⟩
 have hik:ki < Z.N.length:=by simpa using hi.2
 have a7:(ki:Int) < (Z.N.length:Int):=by omega
 have a6:(0:Int)≤(ki:Int):=by omega
 have e2:(⟨Z.N.set ki ⟨(Z.N.getD ki Nd.zero).k,(Z.nd (ki:Int)).ln+1,(Z.N.getD ki Nd.zero).d,(Z.N.getD ki Nd.zero).nm⟩,Z.t⟩:Tz)=Z.lnk (ki:Int) 1:=rfl
 obtain⟨L,hL⟩:∃ L,Hid ((Z.nd (ki:Int)).ln=L):=⟨_,rfl⟩
 rw [hL.out]at hl e2
 go_enter Tryz.func32,Tryz.ntmps32
 go_wp2_with (first
  | (refine Z05 (by rfl) _ (by rfl) o s (by rfl) ?_;intro g1 w1 z1 z2 r1 b1
     have Bc:=b1
     have v1:=b1.size
     try clear c11
     try clear c12
     have c11:=r1.cell 1 _ rfl
     have c12:=r1.cell 2 _ rfl)
  | (refine Z02 (by rfl) (by rfl) ?_;intro g2 w2 z3 z4 r2 b2
     replace Bc:=Z00q Bc b2 (Nat.le_refl _)
     have v2:=b2.size
     try (replace r1:=r1.later b2)
     try (replace r2:=r2.later b2)
     try clear c11
     try clear c12
     have c11:=r1.cell 1 _ rfl
     have c12:=r1.cell 2 _ rfl)
  | (go_at_call 21;refine(hW _ Bc).mono ?_;clear hW;rintro e ww ⟨rfl,bw⟩
     replace Bc:=Z00q Bc bw (Nat.le_refl _)
     have vw:=bw.size
     try (replace r1:=r1.later bw)
     try (replace r2:=r2.later bw)
     try clear c11
     try clear c12
     have c11:=r1.cell 1 _ rfl
     have c12:=r1.cell 2 _ rfl
     have q0:=(H.later Bc).c0
     have qk:=(H.later Bc).nk hik
     rw [hk2]at qk)
  | (go_at_call 66;refine(hP _ Bc).mono ?_;clear hP;rintro e wp ⟨rfl,bp⟩
     replace Bc:=Z00q Bc bp (Nat.le_refl _)
     have vp:=bp.size
     try (replace r1:=r1.later bp)
     try (replace r2:=r2.later bp)
     try clear c11
     try clear c12
     have c11:=r1.cell 1 _ rfl
     have c12:=r1.cell 2 _ rfl)
  | (go_at_call 67;refine(hF _ Bc).mono ?_;clear hF;rintro e u ⟨rfl,rfl⟩
     have z0:=(H.later Bc).c0
     have zl:=(H.later Bc).nl hik
     have zf:=(H.later Bc).row.frozen (ki * 4+1)
     rw [hL.out]at zl
     have H3:=(H.later Bc).set1 hik (L+1)
     rw [e2]at H3)
  | (go_at_call 75;refine(hPut U _ ⟨fb,r,c,_,_,_,_,H3,hUU⟩).mono ?_;rintro e wl ⟨rfl,Gl⟩
     have GG:=DxG.join ((Stp.refl U _).setCell (p:=⟨r,ki * 4+1,none⟩) (.inl ((hUU r).2 (.inr (.inr (.inl rfl))))) _) (Grew.refl _ _ _) Gl
     replace r2:=r2.step GG.stp (fun e=>by have:=hU g2 e;omega))
  | (refine Z03 (by rfl) _ _ (by rfl) g2 (by rfl) anZ 0 Z0c (by rfl) _ r2 rfl ?_;intro w9 r9 s9))
 exact bodyPost_ret (Z0a Z06 Tryz.results32 rfl r9 rfl) rfl ⟨anZ,rfl,Z0c,Z0z hU Bc GG (by omega) (by omega) s9⟩
section
variable {w : World} {U : Nat → Prop} {y n : Nat} {Z : Tz}
theorem Z5m (h:Dx w U y Z) (hz:Z.ok n) {p:List UInt8} (hp:p.length≤5000):
 ∀ w',Below w.heap.size w w'→Calls Tryz.prog 21 #[.pointer (some ⟨y,0,none⟩), .string (str p)] w' fun e u=>e= .returned (.tuple #[.int .i64 (Z.wa p).1, .int .i64 (Z.wa p).2])∧Below w'.heap.size w' u:=fun w' b=>Z75 (h.later b) hz p hp
theorem Zb1 (h:Dx w U y Z) (hz:Z.ok n) (hn:n≤900) (o:Oz) (ho:o.wfo) (s:Sv):
 Calls Tryz.prog 32 #[.pointer (some ⟨y,0,none⟩), .agg (opC o s).toArray] w fun e w'=>RetY e U y (if Z.liE o=0 then Z.liS o else Z) (Z.liE o) w w':=by
 have hW:=Z5m h hz ho.p
 by_cases h1:(Z.wa o.p).2=0
 · have hk:=Z26 hz h1
   have hi:1≤(Z.wa o.p).1∧(Z.wa o.p).1.toNat < Z.N.length:=hz.live hk
   rw [h1]at hW
   by_cases h2:(Z.nd (Z.wa o.p).1).k=2
   · have e1:Z.liE o=43:=by unfold Tz.liE;rw [if_pos h1,if_pos h2]
     rw [e1,if_neg (by decide)]
     exact lk_d h hz hn o s hi h2 hW
   · have hk1:=Z1y hz hk h2
     by_cases h3:Z.paE o.q 41=0
     · obtain⟨p1,p2,p3⟩:=Z1e hz (by decide) h3
       have hdk:(Z.nd (Z.paD o.q)).k≠0:=by rw [p1];decide
       have hP:=Z3d h hz ho.q (by decide) h3
       have hF:=Z3b h (Z18 hz hdk) (lsS o.q)
       by_cases h4:Z.paI o.q=0
       · rw [show lk (Z.nd (Z.paD o.q)).nm (lsS o.q)=0 from h4]at hF
         by_cases h5:(Z.nd (Z.wa o.p).1).ln=200
         · have e1:Z.liE o=48:=by unfold Tz.liE;rw [if_pos h1,if_neg h2,if_pos h3,if_pos h4,if_pos h5]
           rw [e1,if_neg (by decide)]
           exact lk_l h hz hn o s hi hk1 h5 hW hP hF
         · have e1:Z.liE o=0:=by unfold Tz.liE;rw [if_pos h1,if_neg h2,if_pos h3,if_pos h4,if_neg h5]
           have hlx:=hz.lx (Z.wa o.p).1
           rw [e1,if_pos rfl]
           have eS:Z.liS o=(Z.lnk (Z.wa o.p).1 1).put (Z.paD o.q) (lsS o.q) (Z.wa o.p).1:=by
            unfold Tz.liS Tz.nam;exact Z4i (Z18 hz hdk).2 hi.2
           rw [eS]
           have nd2:(((Z.lnk (Z.wa o.p).1 1).nd (Z.paD o.q)).nm)=(Z.nd (Z.paD o.q)).nm:=by
            rw [Z2a hi.2]
            split
            · rename_i e;rw [Z23 (Z:=Z) e]
            · rfl
           exact lk_y h hz hn o s hi hk1 ⟨hlx.1,by omega⟩ hW hP hF (fun U' w' h'=>Z3x h' ⟨(Z18 hz hdk).1,by rw [Z1h];exact(Z18 hz hdk).2⟩ (by rw [nd2];exact hz.so _) (by rw [nd2];have:=hz.nl (Z.paD o.q);omega) _ _)
       · have e1:Z.liE o=41:=by unfold Tz.liE;rw [if_pos h1,if_neg h2,if_pos h3,if_neg h4]
         rw [e1,if_neg (by decide)]
         exact lk_x h hz hn o s hi hk1 h4 hW hP hF
     · have e1:Z.liE o=Z.paE o.q 41:=by unfold Tz.liE;rw [if_pos h1,if_neg h2,if_neg h3]
       rw [e1,if_neg h3]
       exact lk_p h hz hn o s hi hk1 h3 hW (Z3c h hz ho.q (by decide))
 · have e1:Z.liE o=(Z.wa o.p).2:=by unfold Tz.liE;rw [if_neg h1]
   rw [e1,if_neg h1]
   exact lk_e h hz hn o s h1 hW
end
set_option maxRecDepth 100000
def ndR (x:Nd) (a b:Sv):List Value:= [.int .i64 x.k, .int .i64 x.ln, .slice a.a a.n a.c, .slice b.a b.n b.c]
theorem Zdm (x:Nd) (a b:Sv):∀ v ∈ ndR x a b,v.oneCell'=true:=by
 intro v hv;unfold ndR at hv;simp at hv;rcases hv with rfl | rfl | rfl | rfl<;>rfl
theorem Z7c:Srt 76 4 ndZ:=
 ⟨⟨_,Tryz.underlying76,rfl⟩,by kernel_rfl,fun w=>(zero_of_info (v:= .agg ndZ.toArray) (n:=4) (by kernel_rfl)).1 w,rfl,fun v hv=>by unfold ndZ at hv;simp at hv;rcases hv with rfl | rfl<;>rfl⟩
theorem Dw.node {w:World} {y fb r c:Nat} {A:Nat→Prop} {F:Nat→Value} {sd sn:Nat→Sv} {Z:Tz} (h:Dw w y fb r c A F sd sn Z) {k:Nat} (hk:k < Z.N.length):w.rangeAt r (k * 4) (ndR (Z.nd (k:Int)) (sd k) (sn k)):=fun j v hv=>by
 unfold ndR at hv
 match j,hv with
 | 0,hv=>simp at hv;subst hv;exact h.nk hk
 | 1,hv=>simp at hv;subst hv;exact h.nl hk
 | 2,hv=>simp at hv;subst hv;exact h.ndt hk
 | 3,hv=>simp at hv;subst hv;exact h.nnm hk
 | j+4,hv=>simp at hv
section
variable {ops : Array Oper} {rest : List Oper} {o : Oper} {a : Act} {w : World} {Q : Exit → Act → World → Prop}
theorem Z2i (hw:Region.wanted o (yielded ops a.tmps)=true) (ho:o.op= .alloc 76)
 (h:∀ g w',w.heap.size≤g→g < w'.heap.size→Cs w' g ndZ→Below w.heap.size w w'→wpList Tryz.prog ops Q rest (a.put o.dst (.pointer (some ⟨g,0,none⟩))) w'):wpList Tryz.prog ops Q (o::rest) a w:=
 Z1o 76 4 _ Z7c hw ho h
theorem Z2j (hw:Region.wanted o (yielded ops a.tmps)=true) (y z:Operand) (ho:o.op= .store 76 y z) (g:Nat) (hx:a.eval y= .pointer (some ⟨g,0,none⟩)) (x:Nd) (s t:Sv) (hy:a.eval z= .agg (ndR x s t).toArray) (hR:Cs w g ndZ)
 (h:∀ w',Cs w' g (ndR x s t)→Stp (fun x=>x=g) w w'→wpList Tryz.prog ops Q rest (a.put o.dst undef) w'):wpList Tryz.prog ops Q (o::rest) a w:=
 Z1g 76 4 _ Z7c hw y z ho g hx (ndR x s t) hy rfl (Zdm x s t) ndZ hR rfl h
theorem Z2z (hw:Region.wanted o (yielded ops a.tmps)=true) (x:Operand) (ho:o.op= .load 76 x) (r i:Nat) (hx:a.eval x= .pointer (some ⟨r,i,none⟩)) (nd:Nd) (s t:Sv) (hr:w.rangeAt r i (ndR nd s t))
 (h:wpList Tryz.prog ops Q rest (a.put o.dst (.agg (ndR nd s t).toArray)) w):wpList Tryz.prog ops Q (o::rest) a w:=by
 refine Z11 hw _ _ ?_ h
 obtain⟨d,k1,k2⟩:=Z7c.und
 have:(loadVar 76 ⟨r,i,none⟩).run Tryz.prog w= .ok (.agg (ndR nd s t).toArray) w:=run_loadVar_mid w r _ _ (ndR nd s t) _ hr k1 k2 (by rw [Z7c.size];rfl)
 simp [execOp,ho,hx,Instr.loadAt,Instr.sureAddr,this]
end
end Go.Proofs.YtdnjddpfcgginaaGreat
