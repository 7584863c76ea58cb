/-
  Texts of my own, joined: no statement is proved here.
-/
import Derived.Test.YtdnjddpfcgginaaGreatJaf
set_option linter.unusedSimpArgs false
set_option linter.unusedVariables false
namespace Go.Proofs.YtdnjddpfcgginaaGreat
open Go.ChangeShapes Go.WideShapes Go.ChangeAt Go.RowKit
structure Nd where
 k:Int
 ln:Int
 d:List Int
 nm:List Ent
def Nd.zero:Nd:=⟨0,0, [], []⟩
structure Tz where
 N:List Nd
 t:FT
def Tz.nd (Z:Tz) (i:Int):Nd:=Z.N.getD i.toNat Nd.zero
def Tz.top (Z:Tz):Int:=(Z.N.length:Int)
def Tz.up (Z:Tz) (i:Int) (x:Nd):Tz:=⟨Z.N.set i.toNat x,Z.t⟩
def Tz.fds (Z:Tz) (t:FT):Tz:=⟨Z.N,t⟩
def Tz.come (Z:Tz) (k:Int):Tz:=⟨Z.N++ [⟨k,0, [], []⟩],Z.t⟩
def Tz.put (Z:Tz) (d:Int) (s:List UInt8) (i:Int):Tz:=Z.up d ⟨(Z.nd d).k,(Z.nd d).ln,(Z.nd d).d,ptL (Z.nd d).nm s i⟩
def Tz.lnk (Z:Tz) (i y:Int):Tz:=Z.up i ⟨(Z.nd i).k,(Z.nd i).ln+y,(Z.nd i).d,(Z.nd i).nm⟩
def Tz.dat (Z:Tz) (i:Int) (d:List Int):Tz:=Z.up i ⟨(Z.nd i).k,(Z.nd i).ln,d,(Z.nd i).nm⟩
def Tz.gone (Z:Tz) (i:Int):Tz:=if (Z.nd i).ln=0∧fdCt Z.t i 8=0 then Z.up i Nd.zero else Z
def Tz.new:Tz:=⟨[Nd.zero,⟨2,1, [], []⟩],Z3l⟩
section
variable {Z : Tz} {i j : Int} {x : Nd}
@[simp] theorem up_t (Z:Tz) (i:Int) (x:Nd):(Z.up i x).t=Z.t:=rfl
@[simp] theorem up_len (Z:Tz) (i:Int) (x:Nd):(Z.up i x).N.length=Z.N.length:=by unfold Tz.up;simp
theorem Z24 (hi:i.toNat < Z.N.length) (j:Int):(Z.up i x).nd j=if j.toNat=i.toNat then x else Z.nd j:=by
 unfold Tz.nd Tz.up
 simp only [List.getD_eq_getElem?_getD]
 by_cases h:j.toNat=i.toNat
 · rw [if_pos h,h,List.getElem?_set_self hi];rfl
 · rw [if_neg h,List.getElem?_set_ne (fun e=>h e.symm)]
theorem Zaq (h:Z.N.length≤i.toNat):Z.nd i=Nd.zero:=by
 unfold Tz.nd
 rw [List.getD_eq_getElem?_getD,List.getElem?_eq_none h];rfl
theorem Z2p (k:Int) (j:Int):(Z.come k).nd j=if j.toNat=Z.N.length then⟨k,0, [], []⟩else Z.nd j:=by
 unfold Tz.nd Tz.come
 simp only [List.getD_eq_getElem?_getD]
 by_cases h:j.toNat=Z.N.length
 · rw [if_pos h,h];simp
 · rw [if_neg h]
   by_cases h2:j.toNat < Z.N.length
   · rw [List.getElem?_append_left h2]
   · rw [List.getElem?_eq_none (by simp;omega),List.getElem?_eq_none (by omega)]
theorem Z3k {A B:Tz} (h1:A.N.length=B.N.length) (h2:∀ j:Int,0≤j→A.nd j=B.nd j) (h3:A.t=B.t):A=B:=by
 obtain⟨N,t⟩:=A
 obtain⟨M,u⟩:=B
 simp only at h1 h3
 subst h3
 congr 1
 apply List.ext_getElem h1
 intro n g1 g2
 have:=h2 (n:Int) (by omega)
 unfold Tz.nd at this
 simp only [Int.toNat_natCast,List.getD_eq_getElem?_getD,List.getElem?_eq_getElem g1,List.getElem?_eq_getElem g2,Option.getD_some]at this
 exact this
end
def ct:List Nd→Int→Int
 | [],_=>0
 | x::r,i=>cn x.nm i+ct r i
theorem Z30 (x:Nd) (r:List Nd) (i:Int):ct (x::r) i=cn x.nm i+ct r i:=rfl
theorem Zee (l:List Nd) (i:Int):0≤ct l i:=by
 induction l with
 | nil=>simp [ct]
 | cons x r ih=>rw [Z30];have:=Z7l x.nm i;omega
theorem Zed (a b:List Nd) (i:Int):ct (a++b) i=ct a i+ct b i:=by
 induction a with
 | nil=>simp [ct]
 | cons e r ih=>rw [List.cons_append,Z30,Z30,ih];omega
theorem Zah:∀ (l:List Nd) (n:Nat) (x:Nd) (i:Int),n < l.length→ct (l.set n x) i=ct l i - cn (l.getD n Nd.zero).nm i+cn x.nm i
 | [],_,_,_,h=>by cases h
 | e::r,0,x,i,_=>by simp only [List.set_cons_zero,Z30,List.getD_cons_zero];omega
 | e::r,n+1,x,i,h=>by
   have:=Zah r n x i (by simpa using h)
   simp only [List.set_cons_succ,Z30,List.getD_cons_succ,this];omega
theorem Z4a:∀ (l:List Nd) (n:Nat) (e:Ent),e ∈ (l.getD n Nd.zero).nm→1≤ct l e.n
 | [],n,e,h=>by simp [Nd.zero]at h
 | x::r,0,e,h=>by rw [List.getD_cons_zero]at h;rw [Z30];have:=Zec h;have:=Zee r e.n;omega
 | x::r,n+1,e,h=>by rw [List.getD_cons_succ]at h;rw [Z30];have:=Z4a r n e h;have:=Z7l x.nm e.n;omega
theorem Zd9 {l:List Ent} {i:Int} (h:∀ e ∈ l,e.n≠i):cn l i=0:=by
 induction l with
 | nil=>rfl
 | cons e r ih=>rw [Z3q,if_neg (h e (by simp)),ih (fun x hx=>h x (by simp [hx]))];rfl
theorem Zdd {l:List Nd} {i:Int} (h:∀ n,∀ e ∈ (l.getD n Nd.zero).nm,e.n≠i):ct l i=0:=by
 induction l with
 | nil=>rfl
 | cons x r ih=>
   rw [Z30,Zd9 (fun e he=>h 0 e (by simpa using he)),ih (fun n e he=>h (n+1) e (by simpa using he))];rfl
structure Tz.okD (Z:Tz) (m n:Nat) (x:Int→Int):Prop where
 two:2≤Z.N.length
 few:Z.N.length≤m
 z0:Z.nd 0=Nd.zero
 kd:∀ i,(Z.nd i).k=0∨(Z.nd i).k=1∨(Z.nd i).k=2
 gn:∀ i,(Z.nd i).k=0→Z.nd i=Nd.zero
 fi:∀ i,(Z.nd i).k=1→(Z.nd i).nm= []
 di:∀ i,(Z.nd i).k=2→(Z.nd i).d= []
 dl:∀ i,(Z.nd i).d.length≤48640
 db:∀ i,∀ b ∈ (Z.nd i).d,0≤b∧b≤255
 so:∀ i,Srd (Z.nd i).nm
 nl:∀ i,(Z.nd i).nm.length≤n
 nw:∀ i,∀ e ∈ (Z.nd i).nm,nm e.s=true∧2≤e.n∧(Z.nd e.n).k≠0
 rt:(Z.nd 1).k=2
 ln:∀ i,1≤i→(Z.nd i).k≠0→(Z.nd i).ln=ct Z.N i+x i
 lx:∀ i,0≤(Z.nd i).ln∧(Z.nd i).ln≤200
 op:∀ j f,j < 8→Z.t j=some f→(Z.nd f.i).k=1∧0≤f.p∧f.p≤48640∧1≤f.m∧f.m≤3
def x0 (i:Int):Int:=if i=1 then 1 else 0
abbrev Tz.ok (Z:Tz) (n:Nat):Prop:=Z.okD (n+2) n x0
section
variable {Z : Tz} {m n : Nat} {x : Int → Int} {i : Int}
theorem Tz.okD.live (h:Z.okD m n x) (hk:(Z.nd i).k≠0):1≤i∧i.toNat < Z.N.length:=by
 constructor
 · refine Decidable.byContradiction fun e=>hk ?_
   have:Z.nd i=Z.nd 0:=by unfold Tz.nd;rw [show i.toNat=(0:Int).toNat by omega]
   rw [this,h.z0];rfl
 · refine Decidable.byContradiction fun e=>hk ?_
   rw [Zaq (by omega)];rfl
theorem Tz.okD.mono (h:Z.okD m n x) {m' n':Nat} (hm:m≤m') (hn:n≤n') {x':Int→Int} (hx:∀ i,1≤i→(Z.nd i).k≠0→x' i=x i):Z.okD m' n' x':=
 ⟨h.two,Nat.le_trans h.few hm,h.z0,h.kd,h.gn,h.fi,h.di,h.dl,h.db,h.so,fun i=>Nat.le_trans (h.nl i) hn,h.nw,h.rt,fun i h1 h2=>by rw [hx i h1 h2];exact h.ln i h1 h2,h.lx,h.op⟩
theorem Tz.okD.up' (h:Z.okD m n x) (hi:(Z.nd i).k≠0) (y:Nd) {n':Nat} (hn:n≤n') (x':Int→Int)
 (k1:y.k=(Z.nd i).k∨(y=Nd.zero∧2≤i∧(∀ j,∀ e ∈ (Z.nd j).nm,e.n≠i)∧∀ j f,j < 8→Z.t j=some f→f.i≠i))
 (fi:y.k=1→y.nm= []) (di:y.k=2→y.d= []) (dl:y.d.length≤48640) (db:∀ b ∈ y.d,0≤b∧b≤255) (so:Srd y.nm) (nl:y.nm.length≤n')
 (nw:∀ e ∈ y.nm,nm e.s=true∧2≤e.n∧(Z.nd e.n).k≠0) (lx:0≤y.ln∧y.ln≤200)
 (hx:∀ j,1≤j→j≠i→(Z.nd j).k≠0→x' j=x j+cn (Z.nd i).nm j - cn y.nm j)
 (hxi:y.k≠0→y.ln=(Z.nd i).ln+cn y.nm i - cn (Z.nd i).nm i+x' i - x i):(Z.up i y).okD m n' x':=by
 obtain⟨h1,h2⟩:=h.live hi
 have N:=fun j=>Z24 (x:=y) h2 j
 have eqi:∀ j:Int,j.toNat=i.toNat→j=i:=fun j e=>by omega
 have hct:∀ j,ct (Z.up i y).N j=ct Z.N j - cn (Z.nd i).nm j+cn y.nm j:=fun j=>Zah Z.N i.toNat y j h2
 have hyk:y.k=0→y=Nd.zero:=fun e=>by
  rcases k1 with k | k
  · rw [e]at k;exact absurd k.symm hi
  · exact k.1
 have alive:∀ j,(Z.nd j).k≠0→(j=i→y.k≠0)→((Z.up i y).nd j).k≠0:=fun j hj he=>by
  rw [N j]
  by_cases e:j.toNat=i.toNat
  · rw [if_pos e];exact he (eqi j e)
  · rw [if_neg e];exact hj
 refine⟨by rw [up_len];exact h.two,by rw [up_len];exact h.few,?_,fun j=>?_,fun j=>?_,fun j=>?_,fun j=>?_,fun j=>?_,fun j=>?_,fun j=>?_,fun j=>?_,fun j e he=>?_,?_,fun j hj hk=>?_,fun j=>?_,fun j f hj hf=>?_⟩
 · rw [N 0,if_neg (by omega)];exact h.z0
 · rw [N j];split
   · rcases k1 with k | k
     · rw [k];exact h.kd i
     · rw [k.1];exact .inl rfl
   · exact h.kd j
 · rw [N j];split
   · exact hyk
   · exact h.gn j
 · rw [N j];split;exact fi;exact h.fi j
 · rw [N j];split;exact di;exact h.di j
 · rw [N j];split;exact dl;exact h.dl j
 · rw [N j];split;exact db;exact h.db j
 · rw [N j];split;exact so;exact h.so j
 · rw [N j];split;exact nl;exact Nat.le_trans (h.nl j) hn
 · have hh:nm e.s=true∧2≤e.n∧(Z.nd e.n).k≠0:=by
    rw [N j]at he
    split at he
    · exact nw e he
    · exact h.nw j e he
   refine⟨hh.1,hh.2.1,alive _ hh.2.2 (fun e2 e3=>?_)⟩
   rw [N j]at he
   split at he
   · rw [hyk e3]at he;cases he
   · rcases k1 with k | k
     · rw [e3]at k;exact hi k.symm
     · exact k.2.2.1 j e he e2
 · rw [N 1];split
   · rename_i e
     have:i=1:=(eqi 1 e).symm
     rcases k1 with k | k
     · rw [k,this];exact h.rt
     · omega
   · exact h.rt
 · rw [hct j]
   rw [N j]at hk ⊢
   by_cases e:j.toNat=i.toNat
   · have e2:=eqi j e
     rw [if_pos e]at hk ⊢
     subst e2
     have:=h.ln j hj hi
     have:=hxi hk
     omega
   · rw [if_neg e]at hk ⊢
     have:=h.ln j hj hk
     have:=hx j hj (fun e2=>e (by rw [e2])) hk
     omega
 · rw [N j];split;exact lx;exact h.lx j
 · have hf':=hf
   rw [up_t]at hf
   obtain⟨g1,g2⟩:=h.op j f hj hf
   refine⟨?_,g2⟩
   rw [N f.i]
   split
   · rename_i e
     have e2:=eqi _ e
     rcases k1 with k | k
     · rw [k,← e2];exact g1
     · exact absurd e2 (k.2.2.2 j f hj hf)
   · exact g1
theorem Tz.okD.put (h:Z.okD m n x) {d:Int} (hd:(Z.nd d).k=2) (s:List UInt8) (hs:nm s=true) (i:Int) (hi:2≤i) (hk:(Z.nd i).k≠0):
 (Z.put d s i).okD m (n+1) (fun j=>x j+(if lk (Z.nd d).nm s=j then 1 else 0) - (if i=j then 1 else 0)):=by
 refine h.up' (by rw [hd];decide) _ (Nat.le_succ n) _ (.inl rfl) (fun e=>?_) (h.di d) (h.dl d) (h.db d) (Z1a (h.so d) s i) ?_ (fun e he=>?_) (h.lx d) (fun j hj _ _=>?_) (fun _=>?_)
 · simp only at e;rw [hd]at e;cases e
 · have:=Z6q (Z.nd d).nm s i;have:=h.nl d;simp only;omega
 · rcases Z2d (h.so d) he with⟨h1,_⟩ | ⟨h1,_⟩
   · exact h.nw d e h1
   · rw [h1];exact⟨hs,hi,hk⟩
 · have:=Z65 (h.so d) s i j (by omega);simp only;omega
 · have:=Z65 (h.so d) s i d (by have:=(h.live (i:=d) (by rw [hd];decide)).1;omega);simp only;omega
theorem Tz.okD.put0 (h:Z.okD m n x) {d:Int} (hd:(Z.nd d).k=2) (s:List UInt8):
 (Z.put d s 0).okD m n (fun j=>x j+(if lk (Z.nd d).nm s=j then 1 else 0)):=by
 refine h.up' (by rw [hd];decide) _ (Nat.le_refl n) _ (.inl rfl) (fun e=>?_) (h.di d) (h.dl d) (h.db d) (Z1a (h.so d) s 0) ?_ (fun e he=>?_) (h.lx d) (fun j hj _ _=>?_) (fun _=>?_)
 · simp only at e;rw [hd]at e;cases e
 · have:=Zc9 (Z.nd d).nm s;have:=h.nl d;simp only;omega
 · rcases Z2d (h.so d) he with⟨h1,_⟩ | ⟨_,h1⟩
   · exact h.nw d e h1
   · exact absurd rfl h1
 · have:=Z65 (h.so d) s 0 j (by omega);rw [if_neg (show ¬(0:Int)=j by omega)]at this;simp only;omega
 · have hd1:=(h.live (i:=d) (by rw [hd];decide)).1
   have:=Z65 (h.so d) s 0 d (by omega);rw [if_neg (show ¬(0:Int)=d by omega)]at this;simp only;omega
theorem Tz.okD.lnk (h:Z.okD m n x) (hi:(Z.nd i).k≠0) (y:Int) (hy:0≤(Z.nd i).ln+y∧(Z.nd i).ln+y≤200):
 (Z.lnk i y).okD m n (fun j=>x j+(if j=i then y else 0)):=by
 refine h.up' hi _ (Nat.le_refl n) _ (.inl rfl) (h.fi i) (h.di i) (h.dl i) (h.db i) (h.so i) (h.nl i) (h.nw i) hy (fun j hj hne _=>?_) (fun _=>?_)
 · simp only;rw [if_neg hne];omega
 · simp only [if_true];omega
theorem Tz.okD.dat (h:Z.okD m n x) (hi:(Z.nd i).k=1) (d:List Int) (hl:d.length≤48640) (hb:∀ b ∈ d,0≤b∧b≤255):(Z.dat i d).okD m n x:=by
 refine h.up' (by rw [hi];decide) _ (Nat.le_refl n) _ (.inl rfl) (h.fi i) (fun e=>?_) hl hb (h.so i) (h.nl i) (h.nw i) (h.lx i) (fun j hj hne _=>?_) (fun _=>?_)
 · simp only at e;rw [hi]at e;cases e
 · simp only;omega
 · simp only;omega
theorem Z7p (t:FT) (x:Int):∀ k j f,j < k→t j=some f→f.i=x→1≤fdCt t x k
 | 0,j,f,h,_,_=>by omega
 | k+1,j,f,h,hf,hx=>by
   have h2:=Z66 t x k
   unfold fdCt
   by_cases e:j=k
   · subst e;rw [hf];simp only;rw [if_pos hx];omega
   · have:=Z7p t x k j f (by omega) hf hx
     cases t k with
     | none=>simp only;omega
     | some g=>simp only;split<;>omega
theorem Tz.okD.gone (h:Z.okD m n x) (hi:(Z.nd i).k≠0) (hx:x i=0) (h2:2≤i) (hn:(Z.nd i).nm= []):(Z.gone i).okD m n x:=by
 unfold Tz.gone
 by_cases e:(Z.nd i).ln=0∧fdCt Z.t i 8=0
 · rw [if_pos e]
   have hc:=h.ln i (by omega) hi
   refine h.up' hi _ (Nat.le_refl n) _ (.inr ⟨rfl,h2,fun j y hy e2=>?_,fun j f hj hf e2=>?_⟩) (fun e=>by cases e) (fun e=>rfl) (by simp [Nd.zero]) (fun b hb=>by cases hb) (by simp [Nd.zero,Srd]) (by simp [Nd.zero]) (fun b hb=>by cases hb) ⟨by simp [Nd.zero],by simp [Nd.zero]⟩ (fun j hj hne _=>?_) (fun e=>absurd rfl e)
   · have:=Z4a Z.N j.toNat y hy
     rw [e2]at this;omega
   · have:=Z7p Z.t i 8 j f hj hf e2
     omega
   · rw [hn];simp [Nd.zero,cn]
 · rw [if_neg e];exact h
theorem Tz.okD.fds (h:Z.okD m n x) (t:FT) (ht:∀ j f,j < 8→t j=some f→(Z.nd f.i).k=1∧0≤f.p∧f.p≤48640∧1≤f.m∧f.m≤3):(Z.fds t).okD m n x:=
 ⟨h.two,h.few,h.z0,h.kd,h.gn,h.fi,h.di,h.dl,h.db,h.so,h.nl,h.nw,h.rt,h.ln,h.lx,ht⟩
theorem Tz.okD.come (h:Z.okD m n x) (k:Int) (hk:k=1∨k=2) (hx:x Z.top=0):(Z.come k).okD (m+1) n x:=by
 have N:=fun j=>Z2p (Z:=Z) k j
 have hl:(Z.come k).N.length=Z.N.length+1:=by unfold Tz.come;simp
 have h2:=h.two
 have out:∀ j:Int,j.toNat=Z.N.length→Z.nd j=Nd.zero:=fun j e=>Zaq (by omega)
 have alive:∀ j,(Z.nd j).k≠0→((Z.come k).nd j).k≠0:=fun j hj=>by
  rw [N j];split
  · simp only;omega
  · exact hj
 have hct:∀ j,ct (Z.come k).N j=ct Z.N j:=fun j=>by
  unfold Tz.come;rw [Zed];simp [ct,cn]
 refine⟨by omega,by have:=h.few;omega,?_,fun j=>?_,fun j=>?_,fun j=>?_,fun j=>?_,fun j=>?_,fun j=>?_,fun j=>?_,fun j=>?_,fun j e he=>?_,?_,fun j hj hk2=>?_,fun j=>?_,fun j f hj hf=>?_⟩
 · rw [N 0,if_neg (by simp;omega)];exact h.z0
 · rw [N j];split
   · simp only;omega
   · exact h.kd j
 · rw [N j];split
   · intro e;simp only at e;omega
   · exact h.gn j
 · rw [N j];split;exact fun _=>rfl;exact h.fi j
 · rw [N j];split;exact fun _=>rfl;exact h.di j
 · rw [N j];split;exact Nat.zero_le _;exact h.dl j
 · rw [N j];split;exact fun b hb=>(by cases hb);exact h.db j
 · rw [N j];split;exact List.Pairwise.nil;exact h.so j
 · rw [N j];split;exact Nat.zero_le _;exact h.nl j
 · have hh:nm e.s=true∧2≤e.n∧(Z.nd e.n).k≠0:=by
    rw [N j]at he
    split at he
    · cases he
    · exact h.nw j e he
   exact⟨hh.1,hh.2.1,alive _ hh.2.2⟩
 · rw [N 1,if_neg (by omega)];exact h.rt
 · rw [hct j]
   rw [N j]at hk2 ⊢
   by_cases e:j.toNat=Z.N.length
   · rw [if_pos e]
     have :ct Z.N j=0:=Zdd (fun q y hy e2=>by
      have:=(h.nw (q:Int) y (by unfold Tz.nd;simpa using hy)).2.2
      rw [e2,out j e]at this;exact this rfl)
     have e3:j=Z.top:=by unfold Tz.top;omega
     rw [this,e3,hx];rfl
   · rw [if_neg e]at hk2 ⊢;exact h.ln j hj hk2
 · rw [N j];split;exact⟨Int.le_refl _,by simp⟩;exact h.lx j
 · obtain⟨g1,g2⟩:=h.op j f hj hf
   refine⟨?_,g2⟩
   rw [N f.i]
   split
   · rename_i e;rw [out _ e]at g1;cases g1
   · exact g1
end
theorem Z3w:Tz.new.ok 0:=by
 have N:∀ j:Int,Tz.new.nd j=if j.toNat=1 then⟨2,1, [], []⟩else Nd.zero:=fun j=>by
  unfold Tz.nd Tz.new
  match h:j.toNat with
  | 0=>rfl
  | 1=>rfl
  | n+2=>simp
 refine⟨by decide,by decide,?_,fun j=>?_,fun j=>?_,fun j=>?_,fun j=>?_,fun j=>?_,fun j=>?_,fun j=>?_,fun j=>?_,fun j e he=>?_,?_,fun j hj hk2=>?_,fun j=>?_,fun j f hj hf=>?_⟩
 · rfl
 · rw [N j];split<;>simp [Nd.zero]
 · rw [N j];split<;>simp [Nd.zero]
 · rw [N j];split<;>simp [Nd.zero]
 · rw [N j];split<;>simp [Nd.zero]
 · rw [N j];split<;>simp [Nd.zero]
 · rw [N j];split<;>simp [Nd.zero]
 · rw [N j];split<;>simp [Nd.zero,Srd]
 · rw [N j];split<;>simp [Nd.zero]
 · rw [N j]at he;split at he<;>simp [Nd.zero]at he
 · rfl
 · rw [N j]at hk2 ⊢
   split
   · have:j=1:=by omega
     subst this;rfl
   · rename_i e;rw [if_neg e]at hk2;exact absurd rfl hk2
 · rw [N j];split<;>simp [Nd.zero]
 · cases hf
def Tz.wk (Z:Tz):List (List UInt8)→Int→Int×Int
 | [],i=>(i,0)
 | s::r,i=>if (Z.nd i).k=2 then(if lk (Z.nd i).nm s=0 then(0,40)else Z.wk r (lk (Z.nd i).nm s))else(0,42)
def Tz.wa (Z:Tz) (p:List UInt8):Int×Int:=if spE p=0 then Z.wk (spN p) 1 else(0,spE p)
def Tz.paD (Z:Tz) (p:List UInt8):Int:=(Z.wk (lsN p) 1).1
def Tz.paI (Z:Tz) (p:List UInt8):Int:=lk (Z.nd (Z.paD p)).nm (lsS p)
def Tz.paE (Z:Tz) (p:List UInt8) (root:Int):Int:=
 if lsE p=2 then root else if lsE p=0 then(if (Z.wk (lsN p) 1).2=0 then(if (Z.nd (Z.paD p)).k=2 then 0 else 42)else(Z.wk (lsN p) 1).2)else lsE p
structure Oz where
 k:Int
 p:List UInt8
 q:List UInt8
 fd:Int
 n:Int
 off:Int
 fl:Int
 d:List Int
def flOk (f:Int):Bool:= !(decide (f < 0)||decide (31 < f)||decide (f % 4=0)||(decide (f / 8 % 2=1)&&decide (f / 4 % 2=0))||(decide (f / 16 % 2=1)&&decide (f / 2 % 2=0)))
theorem Z2c {f:Int} (h:flOk f=true):0≤f∧f≤31∧f % 4≠0:=by
 unfold flOk at h
 simp at h
 omega
def ctB' (d:List Int) (n:Nat):List Int:=d.take n++List.replicate (n - d.length) 0
def wrB (d:List Int) (p:Nat) (x:List Int):List Int:=(ctB' d (max d.length (p+x.length))).take p++x++(ctB' d (max d.length (p+x.length))).drop (p+x.length)
theorem Z3s (d:List Int) (n:Nat):(ctB' d n).length=n:=by unfold ctB';simp;omega
theorem Zdb (d:List Int):ctB' d d.length=d:=by unfold ctB';simp
theorem Z3g {d:List Int} (h:∀ b ∈ d,0≤b∧b≤255) (n:Nat):∀ b ∈ ctB' d n,0≤b∧b≤255:=fun b hb=>by
 unfold ctB' at hb
 rcases List.mem_append.1 hb with hb | hb
 · exact h b (List.mem_of_mem_take hb)
 · rw [(List.mem_replicate.1 hb).2];omega
theorem Ze6 (d:List Int) (p:Nat) (x:List Int):(wrB d p x).length=max d.length (p+x.length):=by
 unfold wrB
 rw [List.length_append,List.length_append,List.length_take,List.length_drop,Z3s];omega
theorem Z8k {d:List Int} (h:∀ b ∈ d,0≤b∧b≤255) (p:Nat) {x:List Int} (hx:∀ b ∈ x,0≤b∧b≤255):∀ b ∈ wrB d p x,0≤b∧b≤255:=fun b hb=>by
 unfold wrB at hb
 have:=Z3g h (max d.length (p+x.length))
 rcases List.mem_append.1 hb with hb | hb
 · rcases List.mem_append.1 hb with hb | hb
   · exact this b (List.mem_of_mem_take hb)
   · exact hx b hb
 · exact this b (List.mem_of_mem_drop hb)
def rdC (d:List Int) (p n:Int):Int:=min (min p d.length+n) d.length - min p d.length
def Tz.opF (Z:Tz) (i f:Int):Int:=
 if i=0 then(if f / 4 % 2=0 then 40 else if fdFr Z.t=8 then 47 else 0)else(if f / 8 % 2=1 then 41 else if (Z.nd i).k=2 then 43 else if fdFr Z.t=8 then 47 else 0)
def Tz.opE (Z:Tz) (o:Oz):Int:=if flOk o.fl=true then(if Z.paE o.p 43=0 then Z.opF (Z.paI o.p) o.fl else Z.paE o.p 43)else 2
def Tz.mkN (Z:Tz) (k d:Int) (s:List UInt8):Tz:=((Z.come k).put d s Z.top).lnk Z.top 1
def Tz.opS1 (Z:Tz) (d:Int) (s:List UInt8) (i:Int):Tz:=if i=0 then Z.mkN 1 d s else Z
def Tz.opS2 (Z:Tz) (j f:Int):Tz:=if f / 16 % 2=1 then Z.dat j []else Z
def Tz.opS3 (Z:Tz) (j f:Int):Tz:=Z.fds (Z0g Z.t j (f % 4))
def Tz.opJ (Z:Tz) (i:Int):Int:=if i=0 then Z.top else i
def Tz.opS (Z:Tz) (o:Oz):Tz:=((Z.opS1 (Z.paD o.p) (lsS o.p) (Z.paI o.p)).opS2 (Z.opJ (Z.paI o.p)) o.fl).opS3 (Z.opJ (Z.paI o.p)) o.fl
def Tz.clS (Z:Tz) (o:Oz):Tz:=(Z.fds (Z13 Z.t o.fd)).gone (Z01 Z.t o.fd).i
def Tz.reE (Z:Tz) (o:Oz):Int:=if Z04 Z.t o.fd=0 then(if (Z01 Z.t o.fd).m % 2=0 then 50 else if o.n < 0∨4096 < o.n then 2 else 0)else 46
def Tz.reS (Z:Tz) (o:Oz):Tz:=Z.fds (Z0f Z.t o.fd ((Z01 Z.t o.fd).p+rdC (Z.nd (Z01 Z.t o.fd).i).d (Z01 Z.t o.fd).p o.n))
def Tz.wrE (Z:Tz) (o:Oz):Int:=if Z04 Z.t o.fd=0 then(if (Z01 Z.t o.fd).m < 2 then 50 else if 4096 < o.d.length then 2 else if 48640 < (Z01 Z.t o.fd).p+o.d.length then 31 else 0)else 46
def Tz.wrS (Z:Tz) (o:Oz):Tz:=if o.d= []then Z else
 (Z.dat (Z01 Z.t o.fd).i (wrB (Z.nd (Z01 Z.t o.fd).i).d (Z01 Z.t o.fd).p.toNat o.d)).fds (Z0f Z.t o.fd ((Z01 Z.t o.fd).p+o.d.length))
def Tz.skE (Z:Tz) (o:Oz):Int:=if Z04 Z.t o.fd=0 then(if o.off < 0∨48640 < o.off then 2 else 0)else 46
def Tz.skS (Z:Tz) (o:Oz):Tz:=Z.fds (Z0f Z.t o.fd o.off)
def Tz.cuE (Z:Tz) (o:Oz):Int:=if (Z.wa o.p).2=0 then(if (Z.nd (Z.wa o.p).1).k=2 then 43 else if o.n < 0 then 2 else if 48640 < o.n then 31 else 0)else(Z.wa o.p).2
def Tz.cuS (Z:Tz) (o:Oz):Tz:=Z.dat (Z.wa o.p).1 (ctB' (Z.nd (Z.wa o.p).1).d o.n.toNat)
def Tz.lsE' (Z:Tz) (o:Oz):Int:=if (Z.wa o.p).2=0 then(if (Z.nd (Z.wa o.p).1).k=2 then 0 else 42)else(Z.wa o.p).2
def Tz.mdE (Z:Tz) (o:Oz):Int:=if Z.paE o.p 41=0 then(if Z.paI o.p=0 then 0 else 41)else Z.paE o.p 41
def Tz.mdS (Z:Tz) (o:Oz):Tz:=Z.mkN 2 (Z.paD o.p) (lsS o.p)
def Tz.un (Z:Tz) (d:Int) (s:List UInt8) (i:Int):Tz:=((Z.put d s 0).lnk i (-1)).gone i
def Tz.rmE (Z:Tz) (o:Oz):Int:=if Z.paE o.p 51=0 then(if Z.paI o.p=0 then 40 else if (Z.nd (Z.paI o.p)).k=2 then(if (Z.nd (Z.paI o.p)).nm= []then 0 else 44)else 42)else Z.paE o.p 51
def Tz.ulE (Z:Tz) (o:Oz):Int:=if Z.paE o.p 43=0 then(if Z.paI o.p=0 then 40 else if (Z.nd (Z.paI o.p)).k=2 then 43 else 0)else Z.paE o.p 43
def Tz.unS (Z:Tz) (o:Oz):Tz:=Z.un (Z.paD o.p) (lsS o.p) (Z.paI o.p)
def Tz.liE (Z:Tz) (o:Oz):Int:=if (Z.wa o.p).2=0 then(if (Z.nd (Z.wa o.p).1).k=2 then 43 else if Z.paE o.q 41=0 then(if Z.paI o.q=0 then(if (Z.nd (Z.wa o.p).1).ln=200 then 48 else 0)else 41)else Z.paE o.q 41)else(Z.wa o.p).2
def Tz.nam (Z:Tz) (d:Int) (s:List UInt8) (i:Int):Tz:=(Z.put d s i).lnk i 1
def Tz.liS (Z:Tz) (o:Oz):Tz:=Z.nam (Z.paD o.q) (lsS o.q) (Z.wa o.p).1
def Tz.reE1 (Z:Tz) (o:Oz):Int:=if spE o.p=0 then(if spE o.q=0 then(if spN o.p= []∨spN o.q= []then 51 else 0)else spE o.q)else spE o.p
def Tz.reE2 (Z:Tz) (o:Oz):Int:=
 if Z.reE1 o=0 then(if Z.paE o.p 51=0 then(if Z.paI o.p=0 then 40 else if insB (spN o.p) (spN o.q)=true∧(Z.nd (Z.paI o.p)).k=2 then 49 else Z.paE o.q 51)else Z.paE o.p 51)else Z.reE1 o
def Tz.reE3 (Z:Tz) (i j:Int):Int:=
 if j≠0∧(Z.nd i).k=2∧(Z.nd j).k≠2 then 42 else if j≠0∧(Z.nd i).k≠2∧(Z.nd j).k=2 then 43 else if j≠0∧(Z.nd j).nm≠ []then 44 else if (Z.nd i).ln=200 then 48 else 0
def Tz.rnE (Z:Tz) (o:Oz):Int:=if Z.reE2 o=0 then(if Z.paI o.p=Z.paI o.q then 0 else Z.reE3 (Z.paI o.p) (Z.paI o.q))else Z.reE2 o
def Tz.mv (Z:Tz) (d:Int) (s:List UInt8) (i e:Int) (u:List UInt8) (j:Int):Tz:=(((if j=0 then Z else Z.un e u j).nam e u i).un d s i)
def Tz.rnS (Z:Tz) (o:Oz):Tz:=if Z.paI o.p=Z.paI o.q then Z else Z.mv (Z.paD o.p) (lsS o.p) (Z.paI o.p) (Z.paD o.q) (lsS o.q) (Z.paI o.q)
def Tz.doE (Z:Tz) (o:Oz):Int:=
 if o.k=1 then Z.opE o else if o.k=2 then Z04 Z.t o.fd else if o.k=3 then Z.reE o else if o.k=4 then Z.wrE o else if o.k=5 then Z.skE o else if o.k=6 then Z.cuE o else if o.k=7 then Z.mdE o else if o.k=8 then Z.rmE o
 else if o.k=9 then Z.liE o else if o.k=10 then Z.ulE o else if o.k=11 then Z.rnE o else if o.k=12 then(Z.wa o.p).2 else if o.k=13 then Z.lsE' o else if o.k=14 then Z04 Z.t o.fd else if o.k=15 then 0 else 2
def Tz.doS (Z:Tz) (o:Oz):Tz:=
 if o.k=1 then Z.opS o else if o.k=2 then Z.clS o else if o.k=3 then Z.reS o else if o.k=4 then Z.wrS o else if o.k=5 then Z.skS o else if o.k=6 then Z.cuS o else if o.k=7 then Z.mdS o else if o.k=8 then Z.unS o
 else if o.k=9 then Z.liS o else if o.k=10 then Z.unS o else if o.k=11 then Z.rnS o else Z
def Tz.do1 (Z:Tz) (o:Oz):Tz:=if Z.doE o=0 then Z.doS o else Z
section
variable {Z : Tz} {m n : Nat} {x : Int → Int}
theorem Z5n (h:Z.okD m n x):∀ (l:List (List UInt8)) (i:Int),(Z.nd i).k≠0→(Z.wk l i).2=0→(Z.nd (Z.wk l i).1).k≠0
 | [],i,hi,_=>hi
 | s::r,i,hi,he=>by
   unfold Tz.wk at he ⊢
   by_cases h1:(Z.nd i).k=2
   · rw [if_pos h1]at he ⊢
     by_cases h2:lk (Z.nd i).nm s=0
     · rw [if_pos h2]at he;cases he
     · rw [if_neg h2]at he ⊢
       obtain⟨e,e1,e2,e3⟩:=Z3u h2
       exact Z5n h r _ (by rw [← e3];exact(h.nw i e e1).2.2) he
   · rw [if_neg h1]at he;cases he
theorem Z2o (h:Z.okD m n x) (i:Int) {s:List UInt8} (hs:lk (Z.nd i).nm s≠0):2≤lk (Z.nd i).nm s∧(Z.nd (lk (Z.nd i).nm s)).k≠0:=by
 obtain⟨e,e1,e2,e3⟩:=Z3u hs
 rw [← e3];exact(h.nw i e e1).2
theorem Z26 (h:Z.okD m n x) {p:List UInt8} (he:(Z.wa p).2=0):(Z.nd (Z.wa p).1).k≠0:=by
 unfold Tz.wa at he ⊢
 by_cases h1:spE p=0
 · rw [if_pos h1]at he ⊢;exact Z5n h _ 1 (by rw [h.rt];decide) he
 · rw [if_neg h1]at he;exact absurd he h1
theorem Z83 {p:List UInt8} (h:lsE p=0):nm (lsS p)=true:=by
 obtain⟨h1,h2,h3⟩:=Z57 h
 exact(Z5f (Z3m h1).1).1 _ (by rw [← h3];simp)
theorem Z1e (h:Z.okD m n x) {p:List UInt8} {r:Int} (hr:r≠0) (he:Z.paE p r=0):(Z.nd (Z.paD p)).k=2∧nm (lsS p)=true∧(Z.paI p=0∨(2≤Z.paI p∧(Z.nd (Z.paI p)).k≠0)):=by
 unfold Tz.paE at he
 by_cases h1:lsE p=2
 · rw [if_pos h1]at he;exact absurd he hr
 · rw [if_neg h1]at he
   by_cases h2:lsE p=0
   · rw [if_pos h2]at he
     by_cases h3:(Z.wk (lsN p) 1).2=0
     · rw [if_pos h3]at he
       by_cases h4:(Z.nd (Z.paD p)).k=2
       · refine⟨h4,Z83 h2,?_⟩
         by_cases h5:Z.paI p=0
         · exact .inl h5
         · exact .inr (Z2o h _ h5)
       · rw [if_neg h4]at he;cases he
     · rw [if_neg h3]at he;exact absurd he h3
   · rw [if_neg h2]at he;exact absurd he h2
theorem Z1l (h:Z.okD m n x) {fd:Int} (he:Z04 Z.t fd=0):∃ f,Z0u Z.t fd=some f∧Z01 Z.t fd=f∧(Z.nd f.i).k=1∧0≤f.p∧f.p≤48640∧1≤f.m∧f.m≤3:=by
 unfold Z04 at he
 cases hh:Z0u Z.t fd with
 | none=>rw [hh]at he;cases he
 | some f=>
   refine⟨f,rfl,by unfold Z01;rw [hh];rfl,?_⟩
   unfold Z0u at hh
   split at hh
   · exact h.op fd.toNat f (by omega) hh
   · cases hh
theorem Z1p (t:FT) (fd:Int):Z04 t fd=0∨Z04 t fd=46:=by unfold Z04;split;exact .inl rfl;exact .inr rfl
theorem Zdp (h:Z.okD m n x) {j f:Int} (hj:(Z.nd j).k=1) (hf:1≤f∧f≤3):(Z.fds (Z0g Z.t j f)).okD m n x:=by
 refine h.fds _ (fun q g hq hg=>?_)
 unfold Z0g at hg
 split at hg
 · exact h.op q g hq hg
 · unfold fdUp at hg
   split at hg
   · injection hg with hg;subst hg;exact⟨hj,Int.le_refl _,by simp,hf.1,hf.2⟩
   · exact h.op q g hq hg
theorem Z7k (h:Z.okD m n x) (fd:Int):(Z.fds (Z13 Z.t fd)).okD m n x:=by
 refine h.fds _ (fun q g hq hg=>?_)
 unfold Z13 at hg
 cases hh:Z0u Z.t fd with
 | none=>rw [hh]at hg;exact h.op q g hq hg
 | some f=>
   rw [hh]at hg
   simp only at hg
   unfold fdUp at hg
   by_cases e:q=fd.toNat
   · rw [if_pos e]at hg;cases hg
   · rw [if_neg e]at hg;exact h.op q g hq hg
theorem Z6r (h:Z.okD m n x) (fd p:Int) (hp:p≤48640):(Z.fds (Z0f Z.t fd p)).okD m n x:=by
 refine h.fds _ (fun q g hq hg=>?_)
 unfold Z0f at hg
 cases hh:Z0u Z.t fd with
 | none=>rw [hh]at hg;exact h.op q g hq hg
 | some f=>
   rw [hh]at hg
   simp only at hg
   by_cases e0:p < 0
   · rw [if_pos e0]at hg;exact h.op q g hq hg
   · rw [if_neg e0]at hg
     unfold fdUp at hg
     by_cases e:q=fd.toNat
     · rw [if_pos e]at hg
       injection hg with hg;subst hg
       have :Z.t fd.toNat=some f:=by
        unfold Z0u at hh
        by_cases e1:0≤fd∧fd < 8
        · rw [if_pos e1]at hh;exact hh
        · rw [if_neg e1]at hh;cases hh
       obtain⟨g1,g2,g3,g4,g5⟩:=h.op q f hq (by rw [e];exact this)
       exact⟨g1,by simp only;omega,hp,g4,g5⟩
     · rw [if_neg e]at hg;exact h.op q g hq hg
theorem Zba {t:FT} {fd:Int} {f:Fl} (h:Z0u t fd=some f) (hp:0≤f.p):Z0f t fd f.p=t:=by
 unfold Z0f
 rw [h]
 simp only
 rw [if_neg (by omega)]
 funext j
 unfold fdUp
 split
 · rename_i e
   subst e
   unfold Z0u at h
   split at h
   · rw [h]
   · cases h
 · rfl
theorem Z2a {i y:Int} (hi:i.toNat < Z.N.length) (j:Int):(Z.lnk i y).nd j=if j.toNat=i.toNat then⟨(Z.nd i).k,(Z.nd i).ln+y,(Z.nd i).d,(Z.nd i).nm⟩else Z.nd j:=Z24 hi j
theorem Z0v {d i:Int} {s:List UInt8} (hi:d.toNat < Z.N.length) (j:Int):(Z.put d s i).nd j=if j.toNat=d.toNat then⟨(Z.nd d).k,(Z.nd d).ln,(Z.nd d).d,ptL (Z.nd d).nm s i⟩else Z.nd j:=Z24 hi j
theorem Z0h (d i:Int) (s:List UInt8):(Z.put d s i).N.length=Z.N.length:=up_len _ _ _
theorem Z1h (i y:Int):(Z.lnk i y).N.length=Z.N.length:=up_len _ _ _
theorem Zbx (i:Int):(Z.gone i).N.length=Z.N.length:=by unfold Tz.gone;split;exact up_len _ _ _;rfl
theorem Z4i {d i y v:Int} {s:List UInt8} (hd:d.toNat < Z.N.length) (hi:i.toNat < Z.N.length):(Z.put d s v).lnk i y=(Z.lnk i y).put d s v:=by
 refine Z3k (by rw [Z1h,Z0h,Z0h,Z1h]) (fun j hj=>?_) rfl
 have e1:=Z2a (Z:=Z.put d s v) (i:=i) (y:=y) (by rw [Z0h];exact hi) j
 have e2:=Z0v (Z:=Z.lnk i y) (d:=d) (i:=v) (s:=s) (by rw [Z1h];exact hd) j
 rw [e1,e2]
 simp only [Z0v hd,Z2a hi]
 by_cases h1:j.toNat=i.toNat
 · by_cases h2:j.toNat=d.toNat
   · have h3:i.toNat=d.toNat:=by omega
     have h4:Z.nd i=Z.nd d:=by unfold Tz.nd;rw [h3]
     simp [h1,h2,h3,h4]
   · have h3:¬i.toNat=d.toNat:=by omega
     have h4:¬d.toNat=i.toNat:=by omega
     simp [h1,h2,h3,h4]
 · by_cases h2:j.toNat=d.toNat
   · have h3:¬d.toNat=i.toNat:=by omega
     simp [h1,h2,h3]
   · simp [h1,h2]
theorem Zcr (h:Z.okD m n x) {k d:Int} {s:List UInt8} (hk:k=1∨k=2) (hd:(Z.nd d).k=2) (hs:nm s=true) (hl:lk (Z.nd d).nm s=0) (hx:x Z.top=0):(Z.mkN k d s).okD (m+1) (n+1) x:=by
 have h0:=h.come k hk hx
 have hd1:=(h.live (i:=d) (by rw [hd];decide)).2
 have h2:=h.two
 have ht:Z.top.toNat=Z.N.length:=by unfold Tz.top;omega
 have N:=fun j=>Z2p (Z:=Z) k j
 have ed:(Z.come k).nd d=Z.nd d:=by rw [N d,if_neg (by omega)]
 have et:(Z.come k).nd Z.top=⟨k,0, [], []⟩:=by rw [N Z.top,if_pos ht]
 have hlc:(Z.come k).N.length=Z.N.length+1:=by unfold Tz.come;simp
 have h1:=h0.put (d:=d) (by rw [ed];exact hd) s hs Z.top (by unfold Tz.top;omega) (by rw [et];simp only;omega)
 have e1:((Z.come k).put d s Z.top).nd Z.top=⟨k,0, [], []⟩:=by
  rw [Z0v (by omega),if_neg (by omega),et]
 have h3:=h1.lnk (i:=Z.top) (by rw [e1];simp only;omega) 1 (by rw [e1];simp)
 refine h3.mono (Nat.le_refl _) (Nat.le_refl _) (fun j hj _=>?_)
 rw [ed,hl]
 rw [if_neg (show ¬(0:Int)=j by omega)]
 by_cases e:Z.top=j
 · simp [e]
 · rw [if_neg e,if_neg (fun h=>e h.symm)];omega
theorem Zap (h:Z.okD m n x) {d i:Int} {s:List UInt8} (hd:(Z.nd d).k=2) (hs:nm s=true) (hl:lk (Z.nd d).nm s=0) (hi:2≤i) (hk:(Z.nd i).k≠0) (h200:(Z.nd i).ln < 200):(Z.nam d s i).okD m (n+1) x:=by
 have hd1:=(h.live (i:=d) (by rw [hd];decide)).2
 have h1:=h.put hd s hs i hi hk
 have e1:((Z.put d s i).nd i).k=(Z.nd i).k∧((Z.put d s i).nd i).ln=(Z.nd i).ln:=by
  rw [Z0v hd1]
  split
  · rename_i e
    have:i=d:=by omega
    subst this;exact⟨rfl,rfl⟩
  · exact⟨rfl,rfl⟩
 have h3:=h1.lnk (i:=i) (by rw [e1.1];exact hk) 1 (by rw [e1.2];have:=h.lx i;omega)
 refine h3.mono (Nat.le_refl _) (Nat.le_refl _) (fun j hj _=>?_)
 rw [hl]
 rw [if_neg (show ¬(0:Int)=j by omega)]
 by_cases e:i=j
 · simp [e]
 · rw [if_neg e,if_neg (fun h=>e h.symm)];omega
theorem Z82 {d i:Int} {s:List UInt8} (hd:d.toNat < Z.N.length) (hi:i.toNat < Z.N.length) {j:Int} (hj:j.toNat≠i.toNat):(Z.un d s i).nd j=(Z.put d s 0).nd j:=by
 unfold Tz.un Tz.gone
 split
 · rw [Z24 (by rw [Z1h,Z0h];exact hi),if_neg hj,Z2a (by rw [Z0h];exact hi),if_neg hj]
 · rw [Z2a (by rw [Z0h];exact hi),if_neg hj]
theorem Zbl {d i:Int} {s:List UInt8} :(Z.un d s i).N.length=Z.N.length:=by unfold Tz.un;rw [Zbx,Z1h,Z0h]
theorem Zcu (h:Z.okD m n x) {d i:Int} {s:List UInt8} (hd:(Z.nd d).k=2) (hl:lk (Z.nd d).nm s=i) (hi:2≤i) (hx:∀ j,2≤j→x j=0) (hn:(Z.nd i).nm= []∨1 < (Z.nd i).ln):(Z.un d s i).okD m n x:=by
 have hd1:=(h.live (i:=d) (by rw [hd];decide)).2
 have hk:(Z.nd i).k≠0:=by have:=(Z2o h d (s:=s) (by omega)).2;rw [hl]at this;exact this
 have h1:=h.put0 hd s
 have hid:(Z.nd i).nm= []→i≠d:=fun e e2=>by
  have:lk (Z.nd d).nm s≠0:=by omega
  rw [← e2,e]at this;exact this rfl
 have e1:((Z.put d s 0).nd i).k=(Z.nd i).k∧((Z.put d s 0).nd i).ln=(Z.nd i).ln∧((Z.nd i).nm= []→((Z.put d s 0).nd i).nm= []):=by
  rw [Z0v hd1]
  split
  · rename_i e
    have:i=d:=by omega
    subst this;exact⟨rfl,rfl,fun e=>absurd rfl (hid e)⟩
  · exact⟨rfl,rfl,id⟩
 have hc:1≤(Z.nd i).ln:=by
  have h2:=h.ln i (by omega) hk
  obtain⟨e,q1,q2,q3⟩:=Z3u (l:=(Z.nd d).nm) (s:=s) (by omega)
  have:=Z4a Z.N d.toNat e q1
  rw [q3,hl]at this
  have:=hx i hi
  omega
 have h3:=h1.lnk (i:=i) (by rw [e1.1];exact hk) (-1) (by rw [e1.2.1];have:=h.lx i;omega)
 have h4:((Z.put d s 0).lnk i (-1)).okD m n x:=h3.mono (Nat.le_refl _) (Nat.le_refl _) (fun j hj _=>by
  rw [hl]
  by_cases e:i=j
  · simp [e];omega
  · rw [if_neg e,if_neg (fun h=>e h.symm)];omega)
 have hil:=(h.live hk).2
 have e2:((Z.put d s 0).lnk i (-1)).nd i=⟨((Z.put d s 0).nd i).k,((Z.put d s 0).nd i).ln+ -1,((Z.put d s 0).nd i).d,((Z.put d s 0).nd i).nm⟩:=by
  rw [Z2a (by rw [Z0h];exact hil),if_pos rfl]
 unfold Tz.un
 rcases hn with hn | hn
 · exact h4.gone (by rw [e2];simp only;rw [e1.1];exact hk) (hx i hi) hi (by rw [e2];exact e1.2.2 hn)
 · unfold Tz.gone
   rw [if_neg (fun e=>by have:=e.1;rw [e2]at this;simp only at this;rw [e1.2.1]at this;omega)]
   exact h4
end
end Go.Proofs.YtdnjddpfcgginaaGreat
