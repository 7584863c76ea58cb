/-
  Texts of my own, joined: no statement is proved here.
-/
import Derived.Test.YtdnjddpfcgginaaGreatKag
set_option linter.unusedSimpArgs false
set_option linter.unusedVariables false
namespace Go.Proofs.YtdnjddpfcgginaaGreat
open Go.ChangeShapes Go.WideShapes Go.ChangeAt Go.RowKit
def Tz.wk (Z:Tz):List (List UInt8)→Int→Int×Int
 | [],i=>(i,0)
 | s::r,i=>if (Z.nd i).k=2 then(if lk (Z.nd i).nm s=0 then(0,40)else Z.wk r (lk (Z.nd i).nm s))else(0,42)
def Tz.wa (Z:Tz) (p:List UInt8):Int×Int:=if spE p=0 then Z.wk (spN p) 1 else(0,spE p)
def Tz.paD (Z:Tz) (p:List UInt8):Int:=(Z.wk (lsN p) 1).1
def Tz.paI (Z:Tz) (p:List UInt8):Int:=lk (Z.nd (Z.paD p)).nm (lsS p)
def Tz.paE (Z:Tz) (p:List UInt8) (root:Int):Int:=
 if lsE p=2 then root else if lsE p=0 then(if (Z.wk (lsN p) 1).2=0 then(if (Z.nd (Z.paD p)).k=2 then 0 else 42)else(Z.wk (lsN p) 1).2)else lsE p
structure Oz where
 k:Int
 p:List UInt8
 q:List UInt8
 fd:Int
 n:Int
 off:Int
 fl:Int
 d:List Int
def flOk (f:Int):Bool:= !(decide (f < 0)||decide (31 < f)||decide (f % 4=0)||(decide (f / 8 % 2=1)&&decide (f / 4 % 2=0))||(decide (f / 16 % 2=1)&&decide (f / 2 % 2=0)))
theorem Z2b {f:Int} (h:flOk f=true):0≤f∧f≤31∧f % 4≠0:=by
 unfold flOk at h
 simp at h
 omega
def ctB' (d:List Int) (n:Nat):List Int:=d.take n++List.replicate (n - d.length) 0
def wrB (d:List Int) (p:Nat) (x:List Int):List Int:=(ctB' d (max d.length (p+x.length))).take p++x++(ctB' d (max d.length (p+x.length))).drop (p+x.length)
theorem Z3w (d:List Int) (n:Nat):(ctB' d n).length=n:=by unfold ctB';simp;omega
theorem Zds (d:List Int):ctB' d d.length=d:=by unfold ctB';simp
theorem Z3j {d:List Int} (h:∀ b ∈ d,0≤b∧b≤255) (n:Nat):∀ b ∈ ctB' d n,0≤b∧b≤255:=fun b hb=>by
 unfold ctB' at hb
 rcases List.mem_append.1 hb with hb | hb
 · exact h b (List.mem_of_mem_take hb)
 · rw [(List.mem_replicate.1 hb).2];omega
theorem Zen (d:List Int) (p:Nat) (x:List Int):(wrB d p x).length=max d.length (p+x.length):=by
 unfold wrB
 rw [List.length_append,List.length_append,List.length_take,List.length_drop,Z3w];omega
theorem Z8i {d:List Int} (h:∀ b ∈ d,0≤b∧b≤255) (p:Nat) {x:List Int} (hx:∀ b ∈ x,0≤b∧b≤255):∀ b ∈ wrB d p x,0≤b∧b≤255:=fun b hb=>by
 unfold wrB at hb
 have:=Z3j h (max d.length (p+x.length))
 rcases List.mem_append.1 hb with hb | hb
 · rcases List.mem_append.1 hb with hb | hb
   · exact this b (List.mem_of_mem_take hb)
   · exact hx b hb
 · exact this b (List.mem_of_mem_drop hb)
def rdC (d:List Int) (p n:Int):Int:=min (min p d.length+n) d.length - min p d.length
def Tz.opF (Z:Tz) (i f:Int):Int:=
 if i=0 then(if f / 4 % 2=0 then 40 else if fdFr Z.t=8 then 47 else 0)else(if f / 8 % 2=1 then 41 else if (Z.nd i).k=2 then 43 else if fdFr Z.t=8 then 47 else 0)
def Tz.opE (Z:Tz) (o:Oz):Int:=if flOk o.fl=true then(if Z.paE o.p 43=0 then Z.opF (Z.paI o.p) o.fl else Z.paE o.p 43)else 2
def Tz.mkN (Z:Tz) (k d:Int) (s:List UInt8):Tz:=((Z.come k).put d s Z.top).lnk Z.top 1
def Tz.opS1 (Z:Tz) (d:Int) (s:List UInt8) (i:Int):Tz:=if i=0 then Z.mkN 1 d s else Z
def Tz.opS2 (Z:Tz) (j f:Int):Tz:=if f / 16 % 2=1 then Z.dat j []else Z
def Tz.opS3 (Z:Tz) (j f:Int):Tz:=Z.fds (Z0g Z.t j (f % 4))
def Tz.opJ (Z:Tz) (i:Int):Int:=if i=0 then Z.top else i
def Tz.opS (Z:Tz) (o:Oz):Tz:=((Z.opS1 (Z.paD o.p) (lsS o.p) (Z.paI o.p)).opS2 (Z.opJ (Z.paI o.p)) o.fl).opS3 (Z.opJ (Z.paI o.p)) o.fl
def Tz.clS (Z:Tz) (o:Oz):Tz:=(Z.fds (Z12 Z.t o.fd)).gone (Z01 Z.t o.fd).i
def Tz.reE (Z:Tz) (o:Oz):Int:=if Z04 Z.t o.fd=0 then(if (Z01 Z.t o.fd).m % 2=0 then 50 else if o.n < 0∨4096 < o.n then 2 else 0)else 46
def Tz.reS (Z:Tz) (o:Oz):Tz:=Z.fds (Z0f Z.t o.fd ((Z01 Z.t o.fd).p+rdC (Z.nd (Z01 Z.t o.fd).i).d (Z01 Z.t o.fd).p o.n))
def Tz.wrE (Z:Tz) (o:Oz):Int:=if Z04 Z.t o.fd=0 then(if (Z01 Z.t o.fd).m < 2 then 50 else if 4096 < o.d.length then 2 else if 48640 < (Z01 Z.t o.fd).p+o.d.length then 31 else 0)else 46
def Tz.wrS (Z:Tz) (o:Oz):Tz:=if o.d= []then Z else
 (Z.dat (Z01 Z.t o.fd).i (wrB (Z.nd (Z01 Z.t o.fd).i).d (Z01 Z.t o.fd).p.toNat o.d)).fds (Z0f Z.t o.fd ((Z01 Z.t o.fd).p+o.d.length))
def Tz.skE (Z:Tz) (o:Oz):Int:=if Z04 Z.t o.fd=0 then(if o.off < 0∨48640 < o.off then 2 else 0)else 46
def Tz.skS (Z:Tz) (o:Oz):Tz:=Z.fds (Z0f Z.t o.fd o.off)
def Tz.cuE (Z:Tz) (o:Oz):Int:=if (Z.wa o.p).2=0 then(if (Z.nd (Z.wa o.p).1).k=2 then 43 else if o.n < 0 then 2 else if 48640 < o.n then 31 else 0)else(Z.wa o.p).2
def Tz.cuS (Z:Tz) (o:Oz):Tz:=Z.dat (Z.wa o.p).1 (ctB' (Z.nd (Z.wa o.p).1).d o.n.toNat)
def Tz.lsE' (Z:Tz) (o:Oz):Int:=if (Z.wa o.p).2=0 then(if (Z.nd (Z.wa o.p).1).k=2 then 0 else 42)else(Z.wa o.p).2
def Tz.mdE (Z:Tz) (o:Oz):Int:=if Z.paE o.p 41=0 then(if Z.paI o.p=0 then 0 else 41)else Z.paE o.p 41
def Tz.mdS (Z:Tz) (o:Oz):Tz:=Z.mkN 2 (Z.paD o.p) (lsS o.p)
def Tz.un (Z:Tz) (d:Int) (s:List UInt8) (i:Int):Tz:=((Z.put d s 0).lnk i (-1)).gone i
def Tz.rmE (Z:Tz) (o:Oz):Int:=if Z.paE o.p 51=0 then(if Z.paI o.p=0 then 40 else if (Z.nd (Z.paI o.p)).k=2 then(if (Z.nd (Z.paI o.p)).nm= []then 0 else 44)else 42)else Z.paE o.p 51
def Tz.ulE (Z:Tz) (o:Oz):Int:=if Z.paE o.p 43=0 then(if Z.paI o.p=0 then 40 else if (Z.nd (Z.paI o.p)).k=2 then 43 else 0)else Z.paE o.p 43
def Tz.unS (Z:Tz) (o:Oz):Tz:=Z.un (Z.paD o.p) (lsS o.p) (Z.paI o.p)
def Tz.liE (Z:Tz) (o:Oz):Int:=if (Z.wa o.p).2=0 then(if (Z.nd (Z.wa o.p).1).k=2 then 43 else if Z.paE o.q 41=0 then(if Z.paI o.q=0 then(if (Z.nd (Z.wa o.p).1).ln=200 then 48 else 0)else 41)else Z.paE o.q 41)else(Z.wa o.p).2
def Tz.nam (Z:Tz) (d:Int) (s:List UInt8) (i:Int):Tz:=(Z.put d s i).lnk i 1
def Tz.liS (Z:Tz) (o:Oz):Tz:=Z.nam (Z.paD o.q) (lsS o.q) (Z.wa o.p).1
def Tz.reE1 (Z:Tz) (o:Oz):Int:=if spE o.p=0 then(if spE o.q=0 then(if spN o.p= []∨spN o.q= []then 51 else 0)else spE o.q)else spE o.p
def Tz.reE2 (Z:Tz) (o:Oz):Int:=
 if Z.reE1 o=0 then(if Z.paE o.p 51=0 then(if Z.paI o.p=0 then 40 else if insB (spN o.p) (spN o.q)=true∧(Z.nd (Z.paI o.p)).k=2 then 49 else Z.paE o.q 51)else Z.paE o.p 51)else Z.reE1 o
def Tz.reE3 (Z:Tz) (i j:Int):Int:=
 if j≠0∧(Z.nd i).k=2∧(Z.nd j).k≠2 then 42 else if j≠0∧(Z.nd i).k≠2∧(Z.nd j).k=2 then 43 else if j≠0∧(Z.nd j).nm≠ []then 44 else if (Z.nd i).ln=200 then 48 else 0
def Tz.rnE (Z:Tz) (o:Oz):Int:=if Z.reE2 o=0 then(if Z.paI o.p=Z.paI o.q then 0 else Z.reE3 (Z.paI o.p) (Z.paI o.q))else Z.reE2 o
def Tz.mv (Z:Tz) (d:Int) (s:List UInt8) (i e:Int) (u:List UInt8) (j:Int):Tz:=(((if j=0 then Z else Z.un e u j).nam e u i).un d s i)
def Tz.rnS (Z:Tz) (o:Oz):Tz:=if Z.paI o.p=Z.paI o.q then Z else Z.mv (Z.paD o.p) (lsS o.p) (Z.paI o.p) (Z.paD o.q) (lsS o.q) (Z.paI o.q)
def Tz.doE (Z:Tz) (o:Oz):Int:=
 if o.k=1 then Z.opE o else if o.k=2 then Z04 Z.t o.fd else if o.k=3 then Z.reE o else if o.k=4 then Z.wrE o else if o.k=5 then Z.skE o else if o.k=6 then Z.cuE o else if o.k=7 then Z.mdE o else if o.k=8 then Z.rmE o
 else if o.k=9 then Z.liE o else if o.k=10 then Z.ulE o else if o.k=11 then Z.rnE o else if o.k=12 then(Z.wa o.p).2 else if o.k=13 then Z.lsE' o else if o.k=14 then Z04 Z.t o.fd else if o.k=15 then 0 else 2
def Tz.doS (Z:Tz) (o:Oz):Tz:=
 if o.k=1 then Z.opS o else if o.k=2 then Z.clS o else if o.k=3 then Z.reS o else if o.k=4 then Z.wrS o else if o.k=5 then Z.skS o else if o.k=6 then Z.cuS o else if o.k=7 then Z.mdS o else if o.k=8 then Z.unS o
 else if o.k=9 then Z.liS o else if o.k=10 then Z.unS o else if o.k=11 then Z.rnS o else Z
def Tz.do1 (Z:Tz) (o:Oz):Tz:=if Z.doE o=0 then Z.doS o else Z
section
variable {Z : Tz} {m n : Nat} {x : Int → Int}
theorem Z5q (h:Z.okD m n x):∀ (l:List (List UInt8)) (i:Int),(Z.nd i).k≠0→(Z.wk l i).2=0→(Z.nd (Z.wk l i).1).k≠0
 | [],i,hi,_=>hi
 | s::r,i,hi,he=>by
   unfold Tz.wk at he ⊢
   by_cases h1:(Z.nd i).k=2
   · rw [if_pos h1]at he ⊢
     by_cases h2:lk (Z.nd i).nm s=0
     · rw [if_pos h2]at he;cases he
     · rw [if_neg h2]at he ⊢
       obtain⟨e,e1,e2,e3⟩:=Z3x h2
       exact Z5q h r _ (by rw [← e3];exact(h.nw i e e1).2.2) he
   · rw [if_neg h1]at he;cases he
theorem Z2n (h:Z.okD m n x) (i:Int) {s:List UInt8} (hs:lk (Z.nd i).nm s≠0):2≤lk (Z.nd i).nm s∧(Z.nd (lk (Z.nd i).nm s)).k≠0:=by
 obtain⟨e,e1,e2,e3⟩:=Z3x hs
 rw [← e3];exact(h.nw i e e1).2
theorem Z2d (h:Z.okD m n x) {p:List UInt8} (he:(Z.wa p).2=0):(Z.nd (Z.wa p).1).k≠0:=by
 unfold Tz.wa at he ⊢
 by_cases h1:spE p=0
 · rw [if_pos h1]at he ⊢;exact Z5q h _ 1 (by rw [h.rt];decide) he
 · rw [if_neg h1]at he;exact absurd he h1
theorem Z80 {p:List UInt8} (h:lsE p=0):nm (lsS p)=true:=by
 obtain⟨h1,h2,h3⟩:=Z6y h
 exact(Z9w (Z4u h1).1).1 _ (by rw [← h3];simp)
theorem Z1f (h:Z.okD m n x) {p:List UInt8} {r:Int} (hr:r≠0) (he:Z.paE p r=0):(Z.nd (Z.paD p)).k=2∧nm (lsS p)=true∧(Z.paI p=0∨(2≤Z.paI p∧(Z.nd (Z.paI p)).k≠0)):=by
 unfold Tz.paE at he
 by_cases h1:lsE p=2
 · rw [if_pos h1]at he;exact absurd he hr
 · rw [if_neg h1]at he
   by_cases h2:lsE p=0
   · rw [if_pos h2]at he
     by_cases h3:(Z.wk (lsN p) 1).2=0
     · rw [if_pos h3]at he
       by_cases h4:(Z.nd (Z.paD p)).k=2
       · refine⟨h4,Z80 h2,?_⟩
         by_cases h5:Z.paI p=0
         · exact .inl h5
         · exact .inr (Z2n h _ h5)
       · rw [if_neg h4]at he;cases he
     · rw [if_neg h3]at he;exact absurd he h3
   · rw [if_neg h2]at he;exact absurd he h2
theorem Z1m (h:Z.okD m n x) {fd:Int} (he:Z04 Z.t fd=0):∃ f,Z0u Z.t fd=some f∧Z01 Z.t fd=f∧(Z.nd f.i).k=1∧0≤f.p∧f.p≤48640∧1≤f.m∧f.m≤3:=by
 unfold Z04 at he
 cases hh:Z0u Z.t fd with
 | none=>rw [hh]at he;cases he
 | some f=>
   refine⟨f,rfl,by unfold Z01;rw [hh];rfl,?_⟩
   unfold Z0u at hh
   split at hh
   · exact h.op fd.toNat f (by omega) hh
   · cases hh
theorem Z1q (t:FT) (fd:Int):Z04 t fd=0∨Z04 t fd=46:=by unfold Z04;split;exact .inl rfl;exact .inr rfl
theorem Ze7 (h:Z.okD m n x) {j f:Int} (hj:(Z.nd j).k=1) (hf:1≤f∧f≤3):(Z.fds (Z0g Z.t j f)).okD m n x:=by
 refine h.fds _ (fun q g hq hg=>?_)
 unfold Z0g at hg
 split at hg
 · exact h.op q g hq hg
 · unfold fdUp at hg
   split at hg
   · injection hg with hg;subst hg;exact⟨hj,Int.le_refl _,by simp,hf.1,hf.2⟩
   · exact h.op q g hq hg
theorem Z7j (h:Z.okD m n x) (fd:Int):(Z.fds (Z12 Z.t fd)).okD m n x:=by
 refine h.fds _ (fun q g hq hg=>?_)
 unfold Z12 at hg
 cases hh:Z0u Z.t fd with
 | none=>rw [hh]at hg;exact h.op q g hq hg
 | some f=>
   rw [hh]at hg
   simp only at hg
   unfold fdUp at hg
   by_cases e:q=fd.toNat
   · rw [if_pos e]at hg;cases hg
   · rw [if_neg e]at hg;exact h.op q g hq hg
theorem Z6r (h:Z.okD m n x) (fd p:Int) (hp:p≤48640):(Z.fds (Z0f Z.t fd p)).okD m n x:=by
 refine h.fds _ (fun q g hq hg=>?_)
 unfold Z0f at hg
 cases hh:Z0u Z.t fd with
 | none=>rw [hh]at hg;exact h.op q g hq hg
 | some f=>
   rw [hh]at hg
   simp only at hg
   by_cases e0:p < 0
   · rw [if_pos e0]at hg;exact h.op q g hq hg
   · rw [if_neg e0]at hg
     unfold fdUp at hg
     by_cases e:q=fd.toNat
     · rw [if_pos e]at hg
       injection hg with hg;subst hg
       have :Z.t fd.toNat=some f:=by
        unfold Z0u at hh
        by_cases e1:0≤fd∧fd < 8
        · rw [if_pos e1]at hh;exact hh
        · rw [if_neg e1]at hh;cases hh
       obtain⟨g1,g2,g3,g4,g5⟩:=h.op q f hq (by rw [e];exact this)
       exact⟨g1,by simp only;omega,hp,g4,g5⟩
     · rw [if_neg e]at hg;exact h.op q g hq hg
theorem Zbi {t:FT} {fd:Int} {f:Fl} (h:Z0u t fd=some f) (hp:0≤f.p):Z0f t fd f.p=t:=by
 unfold Z0f
 rw [h]
 simp only
 rw [if_neg (by omega)]
 funext j
 unfold fdUp
 split
 · rename_i e
   subst e
   unfold Z0u at h
   split at h
   · rw [h]
   · cases h
 · rfl
theorem Z2a {i y:Int} (hi:i.toNat < Z.N.length) (j:Int):(Z.lnk i y).nd j=if j.toNat=i.toNat then⟨(Z.nd i).k,(Z.nd i).ln+y,(Z.nd i).d,(Z.nd i).nm⟩else Z.nd j:=Z20 hi j
theorem Z0v {d i:Int} {s:List UInt8} (hi:d.toNat < Z.N.length) (j:Int):(Z.put d s i).nd j=if j.toNat=d.toNat then⟨(Z.nd d).k,(Z.nd d).ln,(Z.nd d).d,ptL (Z.nd d).nm s i⟩else Z.nd j:=Z20 hi j
theorem Z0h (d i:Int) (s:List UInt8):(Z.put d s i).N.length=Z.N.length:=up_len _ _ _
theorem Z1j (i y:Int):(Z.lnk i y).N.length=Z.N.length:=up_len _ _ _
theorem Zcc (i:Int):(Z.gone i).N.length=Z.N.length:=by unfold Tz.gone;split;exact up_len _ _ _;rfl
theorem Z4i {d i y v:Int} {s:List UInt8} (hd:d.toNat < Z.N.length) (hi:i.toNat < Z.N.length):(Z.put d s v).lnk i y=(Z.lnk i y).put d s v:=by
 refine Z2r (by rw [Z1j,Z0h,Z0h,Z1j]) (fun j hj=>?_) rfl
 have e1:=Z2a (Z:=Z.put d s v) (i:=i) (y:=y) (by rw [Z0h];exact hi) j
 have e2:=Z0v (Z:=Z.lnk i y) (d:=d) (i:=v) (s:=s) (by rw [Z1j];exact hd) j
 rw [e1,e2]
 simp only [Z0v hd,Z2a hi]
 by_cases h1:j.toNat=i.toNat
 · by_cases h2:j.toNat=d.toNat
   · have h3:i.toNat=d.toNat:=by omega
     have h4:Z.nd i=Z.nd d:=by unfold Tz.nd;rw [h3]
     simp [h1,h2,h3,h4]
   · have h3:¬i.toNat=d.toNat:=by omega
     have h4:¬d.toNat=i.toNat:=by omega
     simp [h1,h2,h3,h4]
 · by_cases h2:j.toNat=d.toNat
   · have h3:¬d.toNat=i.toNat:=by omega
     simp [h1,h2,h3]
   · simp [h1,h2]
theorem Zd9 (h:Z.okD m n x) {k d:Int} {s:List UInt8} (hk:k=1∨k=2) (hd:(Z.nd d).k=2) (hs:nm s=true) (hl:lk (Z.nd d).nm s=0) (hx:x Z.top=0):(Z.mkN k d s).okD (m+1) (n+1) x:=by
 have h0:=h.come k hk hx
 have hd1:=(h.live (i:=d) (by rw [hd];decide)).2
 have h2:=h.two
 have ht:Z.top.toNat=Z.N.length:=by unfold Tz.top;omega
 have N:=fun j=>Z2o (Z:=Z) k j
 have ed:(Z.come k).nd d=Z.nd d:=by rw [N d,if_neg (by omega)]
 have et:(Z.come k).nd Z.top=⟨k,0, [], []⟩:=by rw [N Z.top,if_pos ht]
 have hlc:(Z.come k).N.length=Z.N.length+1:=by unfold Tz.come;simp
 have h1:=h0.put (d:=d) (by rw [ed];exact hd) s hs Z.top (by unfold Tz.top;omega) (by rw [et];simp only;omega)
 have e1:((Z.come k).put d s Z.top).nd Z.top=⟨k,0, [], []⟩:=by
  rw [Z0v (by omega),if_neg (by omega),et]
 have h3:=h1.lnk (i:=Z.top) (by rw [e1];simp only;omega) 1 (by rw [e1];simp)
 refine h3.mono (Nat.le_refl _) (Nat.le_refl _) (fun j hj _=>?_)
 rw [ed,hl]
 rw [if_neg (show ¬(0:Int)=j by omega)]
 by_cases e:Z.top=j
 · simp [e]
 · rw [if_neg e,if_neg (fun h=>e h.symm)];omega
theorem Zau (h:Z.okD m n x) {d i:Int} {s:List UInt8} (hd:(Z.nd d).k=2) (hs:nm s=true) (hl:lk (Z.nd d).nm s=0) (hi:2≤i) (hk:(Z.nd i).k≠0) (h200:(Z.nd i).ln < 200):(Z.nam d s i).okD m (n+1) x:=by
 have hd1:=(h.live (i:=d) (by rw [hd];decide)).2
 have h1:=h.put hd s hs i hi hk
 have e1:((Z.put d s i).nd i).k=(Z.nd i).k∧((Z.put d s i).nd i).ln=(Z.nd i).ln:=by
  rw [Z0v hd1]
  split
  · rename_i e
    have:i=d:=by omega
    subst this;exact⟨rfl,rfl⟩
  · exact⟨rfl,rfl⟩
 have h3:=h1.lnk (i:=i) (by rw [e1.1];exact hk) 1 (by rw [e1.2];have:=h.lx i;omega)
 refine h3.mono (Nat.le_refl _) (Nat.le_refl _) (fun j hj _=>?_)
 rw [hl]
 rw [if_neg (show ¬(0:Int)=j by omega)]
 by_cases e:i=j
 · simp [e]
 · rw [if_neg e,if_neg (fun h=>e h.symm)];omega
theorem Z7z {d i:Int} {s:List UInt8} (hd:d.toNat < Z.N.length) (hi:i.toNat < Z.N.length) {j:Int} (hj:j.toNat≠i.toNat):(Z.un d s i).nd j=(Z.put d s 0).nd j:=by
 unfold Tz.un Tz.gone
 split
 · rw [Z20 (by rw [Z1j,Z0h];exact hi),if_neg hj,Z2a (by rw [Z0h];exact hi),if_neg hj]
 · rw [Z2a (by rw [Z0h];exact hi),if_neg hj]
theorem Zbv {d i:Int} {s:List UInt8} :(Z.un d s i).N.length=Z.N.length:=by unfold Tz.un;rw [Zcc,Z1j,Z0h]
theorem Zdc (h:Z.okD m n x) {d i:Int} {s:List UInt8} (hd:(Z.nd d).k=2) (hl:lk (Z.nd d).nm s=i) (hi:2≤i) (hx:∀ j,2≤j→x j=0) (hn:(Z.nd i).nm= []∨1 < (Z.nd i).ln):(Z.un d s i).okD m n x:=by
 have hd1:=(h.live (i:=d) (by rw [hd];decide)).2
 have hk:(Z.nd i).k≠0:=by have:=(Z2n h d (s:=s) (by omega)).2;rw [hl]at this;exact this
 have h1:=h.put0 hd s
 have hid:(Z.nd i).nm= []→i≠d:=fun e e2=>by
  have:lk (Z.nd d).nm s≠0:=by omega
  rw [← e2,e]at this;exact this rfl
 have e1:((Z.put d s 0).nd i).k=(Z.nd i).k∧((Z.put d s 0).nd i).ln=(Z.nd i).ln∧((Z.nd i).nm= []→((Z.put d s 0).nd i).nm= []):=by
  rw [Z0v hd1]
  split
  · rename_i e
    have:i=d:=by omega
    subst this;exact⟨rfl,rfl,fun e=>absurd rfl (hid e)⟩
  · exact⟨rfl,rfl,id⟩
 have hc:1≤(Z.nd i).ln:=by
  have h2:=h.ln i (by omega) hk
  obtain⟨e,q1,q2,q3⟩:=Z3x (l:=(Z.nd d).nm) (s:=s) (by omega)
  have:=Z48 Z.N d.toNat e q1
  rw [q3,hl]at this
  have:=hx i hi
  omega
 have h3:=h1.lnk (i:=i) (by rw [e1.1];exact hk) (-1) (by rw [e1.2.1];have:=h.lx i;omega)
 have h4:((Z.put d s 0).lnk i (-1)).okD m n x:=h3.mono (Nat.le_refl _) (Nat.le_refl _) (fun j hj _=>by
  rw [hl]
  by_cases e:i=j
  · simp [e];omega
  · rw [if_neg e,if_neg (fun h=>e h.symm)];omega)
 have hil:=(h.live hk).2
 have e2:((Z.put d s 0).lnk i (-1)).nd i=⟨((Z.put d s 0).nd i).k,((Z.put d s 0).nd i).ln+ -1,((Z.put d s 0).nd i).d,((Z.put d s 0).nd i).nm⟩:=by
  rw [Z2a (by rw [Z0h];exact hil),if_pos rfl]
 unfold Tz.un
 rcases hn with hn | hn
 · exact h4.gone (by rw [e2];simp only;rw [e1.1];exact hk) (hx i hi) hi (by rw [e2];exact e1.2.2 hn)
 · unfold Tz.gone
   rw [if_neg (fun e=>by have:=e.1;rw [e2]at this;simp only at this;rw [e1.2.1]at this;omega)]
   exact h4
end
section
variable {Z : Tz} {m n : Nat} {x : Int → Int}
theorem Ze1 {i:Int} (hi:i.toNat < Z.N.length):(Z.lnk i 1).lnk i (-1)=Z:=by
 refine Z2r (by rw [Z1j,Z1j]) (fun j hj=>?_) rfl
 have e1:=Z2a (Z:=Z.lnk i 1) (i:=i) (y:= -1) (by rw [Z1j];exact hi) j
 rw [e1]
 simp only [Z2a hi]
 by_cases h:j.toNat=i.toNat
 · have h4:Z.nd j=Z.nd i:=by unfold Tz.nd;rw [h]
   rw [h4]
   simp [h]
   cases Z.nd i;simp;omega
 · simp [h]
theorem Z7v {d i v:Int} {s:List UInt8} (hd:d.toNat < Z.N.length) (hi:i.toNat < Z.N.length) (hne:d.toNat≠i.toNat):(Z.gone i).put d s v=(Z.put d s v).gone i:=by
 have h1:(Z.put d s v).nd i=Z.nd i:=by rw [Z0v hd,if_neg (fun e=>hne e.symm)]
 have h2:(Z.put d s v).t=Z.t:=rfl
 unfold Tz.gone
 rw [h1,h2]
 by_cases c:(Z.nd i).ln=0∧fdCt Z.t i 8=0
 · rw [if_pos c,if_pos c]
   refine Z2r (by rw [Z0h,up_len,up_len,Z0h]) (fun j hj=>?_) rfl
   have e1:=Z0v (Z:=Z.up i Nd.zero) (d:=d) (i:=v) (s:=s) (by rw [up_len];exact hd) j
   have e2:=Z20 (Z:=Z.put d s v) (i:=i) (x:=Nd.zero) (by rw [Z0h];exact hi) j
   rw [e1,e2]
   simp only [Z20 hi,Z0v hd]
   by_cases g1:j.toNat=d.toNat
   · have g2:¬j.toNat=i.toNat:=by omega
     simp [g1,hne]
   · simp [g1]
 · rw [if_neg c,if_neg c]
theorem Z85 (h:Z.okD m n x) {d e i:Int} {s u:List UInt8} (hd:(Z.nd d).k=2) (he:(Z.nd e).k=2) (hi:2≤i) (hsu:d=e→s≠u):
 (Z.put e u i).put d s 0=(Z.put d s 0).put e u i:=by
 have hd1:=(h.live (i:=d) (by rw [hd];decide)).2
 have he1:=(h.live (i:=e) (by rw [he];decide)).2
 refine Z2r (by simp only [Z0h]) (fun j hj=>?_) rfl
 have e1:=Z0v (Z:=Z.put e u i) (d:=d) (i:=0) (s:=s) (by rw [Z0h];exact hd1) j
 have e2:=Z0v (Z:=Z.put d s 0) (d:=e) (i:=i) (s:=u) (by rw [Z0h];exact he1) j
 rw [e1,e2]
 simp only [Z0v hd1,Z0v he1]
 by_cases g1:d=e
 · subst g1
   by_cases g2:j.toNat=d.toNat
   · simp only [g2,if_true]
     congr 1
     have hso:=h.so d
     refine Z5m (Z1a (Z1a hso _ _) _ _) (Z1a (Z1a hso _ _) _ _) (fun y hy=>?_) (fun y hy=>?_) (fun y=>?_)
     · rcases Z2c (Z1a hso _ _) hy with⟨y1,_⟩ | ⟨_,y1⟩
       · rcases Z2c hso y1 with⟨y2,_⟩ | ⟨y2,_⟩
         · have:=(h.nw d y y2).2.1;omega
         · rw [y2];simp only;omega
       · exact absurd rfl y1
     · rcases Z2c (Z1a hso _ _) hy with⟨y1,_⟩ | ⟨y1,_⟩
       · rcases Z2c hso y1 with⟨y2,_⟩ | ⟨_,y2⟩
         · have:=(h.nw d y y2).2.1;omega
         · exact absurd rfl y2
       · rw [y1];simp only;omega
     · rw [Z1n (Z1a hso _ _),Z1n hso,Z1n (Z1a hso _ _),Z1n hso]
       by_cases y1:y=s
       · have:y≠u:=fun y2=>hsu rfl (y1.symm.trans y2)
         simp [y1,hsu rfl]
       · simp [y1]
   · simp [g2]
 · have g3:¬d.toNat=e.toNat:=fun q=>g1 (by have:=(h.live (i:=d) (by rw [hd];decide)).1;have:=(h.live (i:=e) (by rw [he];decide)).1;omega)
   by_cases g2:j.toNat=d.toNat
   · simp [g2,g3]
   · by_cases g4:j.toNat=e.toNat
     · have g5:¬e.toNat=d.toNat:=fun q=>g3 q.symm
       simp [g4,g5]
     · simp [g2,g4]
theorem Zcq {l:List Ent} (hl:Srd l) {s:List UInt8} (h0:∀ y ∈ l,y.n≠0) (h:lk l s=0):ptL l s 0=l:=by
 refine Z5m (Z1a hl s 0) hl (fun y hy=>?_) h0 (fun y=>?_)
 · rcases Z2c hl hy with⟨y1,_⟩ | ⟨_,y1⟩
   · exact h0 y y1
   · exact absurd rfl y1
 · rw [Z1n hl]
   split
   · rename_i e;rw [e,h]
   · rfl
theorem Z5z (h:Z.okD m n x) {d:Int} {s:List UInt8} (hd:(Z.nd d).k=2) (hl:lk (Z.nd d).nm s=0):Z.put d s 0=Z:=by
 have hd1:=(h.live (i:=d) (by rw [hd];decide)).2
 refine Z2r (by rw [Z0h]) (fun j hj=>?_) rfl
 rw [Z0v hd1]
 split
 · rename_i e
   have e2:Z.nd j=Z.nd d:=by unfold Tz.nd;rw [e]
   rw [Zcq (h.so d) (fun y hy=>by have:=(h.nw d y hy).2.1;omega) hl,e2]
 · rfl
def Tz.mvR (Z:Tz) (d:Int) (s:List UInt8) (i e:Int) (u:List UInt8) (j:Int):Tz:=
 if j=0 then((Z.put d s 0).put e u 0).put e u i else(((((Z.put d s 0).put e u 0).put e u i).lnk j (-1)).gone j)
structure Tz.mvOk (Z:Tz) (d:Int) (s:List UInt8) (i e:Int) (u:List UInt8) (j:Int):Prop where
 hd:(Z.nd d).k=2
 he:(Z.nd e).k=2
 hs:lk (Z.nd d).nm s=i
 hu:lk (Z.nd e).nm u=j
 ns:nm u=true
 i2:2≤i
 ij:i≠j
 je:j≠0→(Z.nd j).nm= []
 ln:(Z.nd i).ln < 200
theorem Z9y (h:Z.okD m n x) {d i e j:Int} {s u:List UInt8} (H:Z.mvOk d s i e u j):(d=e→s≠u)∧(j≠0→2≤j∧(Z.nd j).k≠0∧j≠d∧j≠e):=by
 refine⟨fun e1 e2=>H.ij (by rw [← H.hs,← H.hu,e1,e2]),fun hj=>?_⟩
 have hl:=Z2n h e (s:=u) (by rw [H.hu];exact hj)
 rw [H.hu]at hl
 refine⟨hl.1,hl.2,fun q=>?_,fun q=>?_⟩
 · have:=H.hs;rw [← q,H.je hj]at this;have:=H.i2;simp only [lk]at *;omega
 · have:=H.hu;rw [← q,H.je hj]at this;simp only [lk]at this;omega
theorem Zda (h:Z.okD m n x) (hx:∀ j,2≤j→x j=0) {d i e j:Int} {s u:List UInt8} (H:Z.mvOk d s i e u j):Z.mv d s i e u j=Z.mvR d s i e u j:=by
 obtain⟨n1,n2⟩:=Z9y h H
 have hd1:=(h.live (i:=d) (by rw [H.hd];decide)).2
 have he1:=(h.live (i:=e) (by rw [H.he];decide)).2
 have hik:(Z.nd i).k≠0:=by have:=(Z2n h d (s:=s) (by rw [H.hs];have:=H.i2;omega)).2;rw [H.hs]at this;exact this
 have hi1:=(h.live hik).2
 have hi2:=H.i2
 -- the link of what is moved
 have hln:1≤(Z.nd i).ln:=by
  obtain⟨y,q1,q2,q3⟩:=Z3x (l:=(Z.nd d).nm) (s:=s) (by rw [H.hs];omega)
  have c:=Z48 Z.N d.toNat y q1
  rw [q3,H.hs]at c
  have:=h.ln i (by omega) hik
  have:=hx i hi2
  omega
 have key:∀ A:Tz,A.N.length=Z.N.length→(A.nd i).ln=(Z.nd i).ln→(A.nam e u i).un d s i=(A.put e u i).put d s 0:=fun A hA hl=>by
  have a1:i.toNat < (A.put e u i).N.length:=by rw [Z0h,hA];exact hi1
  have a2:d.toNat < (A.put e u i).N.length:=by rw [Z0h,hA];exact hd1
  have a3:e.toNat < A.N.length:=by rw [hA];exact he1
  unfold Tz.un Tz.nam
  rw [← Z4i a2 a1,Ze1 (by rw [Z0h];exact a1)]
  unfold Tz.gone
  rw [if_neg]
  intro c
  have c1:=c.1
  have e1:=Z0v (Z:=A.put e u i) (d:=d) (i:=0) (s:=s) a2 i
  have e2:=Z0v (Z:=A) (d:=e) (i:=i) (s:=u) a3 i
  have e3:=Z0v (Z:=A) (d:=e) (i:=i) (s:=u) a3 d
  have q:∀ a b:Int,a.toNat=b.toNat→A.nd a=A.nd b:=fun a b w=>by unfold Tz.nd;rw [w]
  rw [e1]at c1
  split at c1
  · rename_i w
    simp only at c1
    rw [e3]at c1
    split at c1
    · rename_i w2;simp only at c1;rw [q e i (by omega),hl]at c1;omega
    · rw [q d i (by omega),hl]at c1;omega
  · rw [e2]at c1
    split at c1
    · rename_i w2;simp only at c1;rw [q e i (by omega),hl]at c1;omega
    · rw [hl]at c1;omega
 unfold Tz.mv Tz.mvR
 by_cases hj:j=0
 · rw [if_pos hj,if_pos hj,key Z rfl rfl,Z85 h H.hd H.he hi2 n1]
   have hu0:lk (Z.nd e).nm u=0:=by rw [H.hu,hj]
   have h1:=h.put0 H.hd s
   have e1:((Z.put d s 0).nd e).k=2∧lk ((Z.put d s 0).nd e).nm u=0:=by
    rw [Z0v hd1]
    split
    · rename_i w
      refine⟨H.hd,?_⟩
      have w2:d=e:=by have:=(h.live (i:=d) (by rw [H.hd];decide)).1;have:=(h.live (i:=e) (by rw [H.he];decide)).1;omega
      simp only
      rw [Z1n (h.so d),if_neg (fun q=>n1 w2 q.symm),w2];exact hu0
    · exact⟨H.he,hu0⟩
   rw [Z5z h1 e1.1 e1.2]
 · obtain⟨j2,jk,jd,je⟩:=n2 hj
   have hj1:=(h.live jk).2
   rw [if_neg hj,if_neg hj]
   have dj:d.toNat≠j.toNat:=by have:=(h.live (i:=d) (by rw [H.hd];decide)).1;omega
   have ej:e.toNat≠j.toNat:=by have:=(h.live (i:=e) (by rw [H.he];decide)).1;omega
   have hA:((Z.un e u j).nd i).ln=(Z.nd i).ln:=by
    rw [Z7z he1 hj1 (by have:=H.ij;omega),Z0v he1]
    split
    · rename_i w;simp only;unfold Tz.nd;rw [w]
    · rfl
   rw [key (Z.un e u j) Zbv hA]
   have h1:=h.put0 H.he u
   have b1:((Z.put e u 0).nd d).k=2:=by
    rw [Z0v he1];split
    · exact H.he
    · exact H.hd
   have b2:((Z.put e u 0).nd e).k=2:=by rw [Z0v he1,if_pos rfl];exact H.he
   have c1:((Z.put e u 0).lnk j (-1)).put e u i=((Z.put e u 0).put e u i).lnk j (-1):=(Z4i (by rw [Z0h];exact he1) (by rw [Z0h];exact hj1)).symm
   have c2:(((Z.put e u 0).put e u i).lnk j (-1)).put d s 0=(((Z.put e u 0).put e u i).put d s 0).lnk j (-1):=(Z4i (by simp only [Z0h];exact hd1) (by simp only [Z0h];exact hj1)).symm
   show((((Z.put e u 0).lnk j (-1)).gone j).put e u i).put d s 0=_
   rw [Z7v (by rw [Z1j,Z0h];exact he1) (by rw [Z1j,Z0h];exact hj1) ej,c1,Z7v (by rw [Z1j,Z0h,Z0h];exact hd1) (by rw [Z1j,Z0h,Z0h];exact hj1) dj,c2,Z85 h1 b1 b2 hi2 n1]
   -- the two names taken away,in one order as in the other
   have sw:(Z.put e u 0).put d s 0=(Z.put d s 0).put e u 0:=by
    refine Z2r (by simp only [Z0h]) (fun q hq=>?_) rfl
    have e1:=Z0v (Z:=Z.put e u 0) (d:=d) (i:=0) (s:=s) (by rw [Z0h];exact hd1) q
    have e2:=Z0v (Z:=Z.put d s 0) (d:=e) (i:=0) (s:=u) (by rw [Z0h];exact he1) q
    rw [e1,e2]
    simp only [Z0v hd1,Z0v he1]
    by_cases g1:d=e
    · subst g1
      by_cases g2:q.toNat=d.toNat
      · simp only [g2,if_true]
        congr 1
        have hso:=h.so d
        have nz:∀ a b,∀ y ∈ ptL (ptL (Z.nd d).nm a 0) b 0,y.n≠0:=fun a b y hy=>by
         rcases Z2c (Z1a hso _ _) hy with⟨y1,_⟩ | ⟨_,y1⟩
         · rcases Z2c hso y1 with⟨y2,_⟩ | ⟨_,y2⟩
           · have:=(h.nw d y y2).2.1;omega
           · exact absurd rfl y2
         · exact absurd rfl y1
        refine Z5m (Z1a (Z1a hso _ _) _ _) (Z1a (Z1a hso _ _) _ _) (nz _ _) (nz _ _) (fun y=>?_)
        rw [Z1n (Z1a hso _ _),Z1n hso,Z1n (Z1a hso _ _),Z1n hso]
        by_cases y1:y=s
        · simp [y1]
        · simp [y1]
      · simp [g2]
    · have g3:¬d.toNat=e.toNat:=fun q=>g1 (by have:=(h.live (i:=d) (by rw [H.hd];decide)).1;have:=(h.live (i:=e) (by rw [H.he];decide)).1;omega)
      by_cases g2:q.toNat=d.toNat
      · simp [g2,g3]
      · by_cases g4:q.toNat=e.toNat
        · have g5:¬e.toNat=d.toNat:=fun q=>g3 q.symm
          simp [g4,g5]
        · simp [g2,g4]
   rw [sw]
theorem Zfc (h:Z.okD m n x) {d i e j:Int} {s u:List UInt8} (H:Z.mvOk d s i e u j) (hx:∀ j,2≤j→x j=0):(Z.mvR d s i e u j).okD m (n+1) x:=by
 obtain⟨n1,n2⟩:=Z9y h H
 have hd0:=h.live (i:=d) (by rw [H.hd];decide)
 have he0:=h.live (i:=e) (by rw [H.he];decide)
 have hd1:=hd0.2
 have he1:=he0.2
 have hik:(Z.nd i).k≠0:=by have:=(Z2n h d (s:=s) (by rw [H.hs];have:=H.i2;omega)).2;rw [H.hs]at this;exact this
 have hi2:=H.i2
 have R1:=h.put0 H.hd s
 have f1:=fun y=>Z0v (Z:=Z) (d:=d) (i:=0) (s:=s) hd1 y
 have e1:((Z.put d s 0).nd e).k=2∧lk ((Z.put d s 0).nd e).nm u=j:=by
  rw [f1 e]
  split
  · rename_i w
    refine⟨H.hd,?_⟩
    have w2:d=e:=by omega
    simp only
    rw [Z1n (h.so d),if_neg (fun q=>n1 w2 q.symm),w2];exact H.hu
  · exact⟨H.he,H.hu⟩
 have R2:=R1.put0 e1.1 u
 have f2:=fun y=>Z0v (Z:=Z.put d s 0) (d:=e) (i:=0) (s:=u) (by rw [Z0h];exact he1) y
 have e2:(((Z.put d s 0).put e u 0).nd e).k=2∧lk (((Z.put d s 0).put e u 0).nd e).nm u=0:=by
  rw [f2 e,if_pos rfl]
  refine⟨e1.1,?_⟩
  simp only
  rw [Z1n (R1.so e),if_pos rfl]
 have kk:∀ y,(((Z.put d s 0).put e u 0).nd y).k=(Z.nd y).k:=fun y=>by
  have q:∀ a b:Int,a.toNat=b.toNat→Z.nd a=Z.nd b:=fun a b w=>by unfold Tz.nd;rw [w]
  have k1:∀ y,((Z.put d s 0).nd y).k=(Z.nd y).k:=fun y=>by
   rw [f1 y];split
   · rename_i w;rw [q y d w]
   · rfl
  rw [f2 y];split
  · rename_i w;simp only;rw [k1 e,q y e w]
  · exact k1 y
 have R3:=R2.put e2.1 u H.ns i hi2 (by rw [kk];exact hik)
 have f3:=fun y=>Z0v (Z:=(Z.put d s 0).put e u 0) (d:=e) (i:=i) (s:=u) (by simp only [Z0h];exact he1) y
 rw [e2.2,e1.2,H.hs]at R3
 unfold Tz.mvR
 by_cases hj:j=0
 · rw [if_pos hj]
   refine R3.mono (Nat.le_refl _) (Nat.le_refl _) (fun y hy _=>?_)
   rw [hj,if_neg (show ¬(0:Int)=y by omega)]
   omega
 · rw [if_neg hj]
   obtain⟨j2,jk,jd,je⟩:=n2 hj
   have g:∀ y,y.toNat≠d.toNat→y.toNat≠e.toNat→((((Z.put d s 0).put e u 0).put e u i).nd y)=Z.nd y:=fun y w1 w2=>by
    rw [f3 y,if_neg w2,f2 y,if_neg w2,f1 y,if_neg w1]
   have gj:=g j (by omega) (by omega)
   have hlj:1≤(Z.nd j).ln:=by
    obtain⟨y,q1,q2,q3⟩:=Z3x (l:=(Z.nd e).nm) (s:=u) (by rw [H.hu];exact hj)
    have c:=Z48 Z.N e.toNat y q1
    rw [q3,H.hu]at c
    have:=h.ln j (by omega) jk
    have:=hx j j2
    omega
   have R4:=R3.lnk (i:=j) (by rw [gj];exact jk) (-1) (by rw [gj];have:=h.lx j;omega)
   have R5:(((((Z.put d s 0).put e u 0).put e u i).lnk j (-1))).okD m (n+1) x:=R4.mono (Nat.le_refl _) (Nat.le_refl _) (fun y hy _=>by
    rw [if_neg (show ¬(0:Int)=y by omega)]
    by_cases w:j=y
    · rw [if_pos (show j=y from w),if_pos (show y=j from w.symm)];omega
    · rw [if_neg (show ¬j=y from w),if_neg (show ¬y=j from fun q=>w q.symm)];omega)
   have f4:=Z2a (Z:=((Z.put d s 0).put e u 0).put e u i) (i:=j) (y:= -1) (by simp only [Z0h];exact(h.live jk).2) j
   rw [if_pos rfl,gj]at f4
   exact R5.gone (by rw [f4];exact jk) (hx j j2) j2 (by rw [f4];exact H.je hj)
end
theorem Z2l:∀ j:Int,2≤j→x0 j=0:=fun j hj=>by unfold x0;rw [if_neg (by omega)]
theorem Za6 {Z:Tz} {m n:Nat} {x:Int→Int} (h:Z.okD m n x) {o:Oz} (hE:Z.rnE o=0) (hne:Z.paI o.p≠Z.paI o.q):Z.mvOk (Z.paD o.p) (lsS o.p) (Z.paI o.p) (Z.paD o.q) (lsS o.q) (Z.paI o.q):=by
 unfold Tz.rnE at hE
 by_cases h0:Z.reE2 o=0
 · rw [if_pos h0,if_neg hne]at hE
   unfold Tz.reE2 at h0
   by_cases h1:Z.reE1 o=0
   · rw [if_pos h1]at h0
     by_cases h2:Z.paE o.p 51=0
     · rw [if_pos h2]at h0
       by_cases h3:Z.paI o.p=0
       · rw [if_pos h3]at h0;cases h0
       · rw [if_neg h3]at h0
         by_cases h4:insB (spN o.p) (spN o.q)=true∧(Z.nd (Z.paI o.p)).k=2
         · rw [if_pos h4]at h0;cases h0
         · rw [if_neg h4]at h0
           obtain⟨a1,a2,a3⟩:=Z1f h (by decide) h2
           obtain⟨b1,b2,b3⟩:=Z1f h (by decide) h0
           unfold Tz.reE3 at hE
           split at hE
           · cases hE
           · split at hE
             · cases hE
             · split at hE
               · cases hE
               · split at hE
                 · cases hE
                 · rename_i c1 c2 c3 c4
                   refine⟨a1,b1,rfl,rfl,b2,?_,hne,fun hj=>?_,?_⟩
                   · rcases a3 with a3 | a3
                     · exact absurd a3 h3
                     · exact a3.1
                   · exact Decidable.byContradiction fun q=>c3 ⟨hj,q⟩
                   · have:=h.lx (Z.paI o.p);omega
     · rw [if_neg h2]at h0;exact absurd h0 h2
   · rw [if_neg h1]at h0;exact absurd h0 h1
 · rw [if_neg h0]at hE;exact absurd hE h0
section
variable {Z : Tz} {m n : Nat} {x : Int → Int}
theorem Zf4 {k d:Int} {s:List UInt8} (hd:d.toNat < Z.N.length):(Z.mkN k d s).nd Z.top=⟨k,1, [], []⟩:=by
 have ht:Z.top.toNat=Z.N.length:=by unfold Tz.top;omega
 have hlc:(Z.come k).N.length=Z.N.length+1:=by unfold Tz.come;simp
 unfold Tz.mkN
 rw [Z2a (by rw [Z0h,hlc];omega),if_pos rfl,Z0v (by rw [hlc];omega),if_neg (by omega),Z2o,if_pos ht]
 rfl
theorem Z1z (h:Z.okD m n x) {i:Int} (h0:(Z.nd i).k≠0) (h2:(Z.nd i).k≠2):(Z.nd i).k=1:=by
 rcases h.kd i with e | e | e
 · exact absurd e h0
 · exact e
 · exact absurd e h2
theorem Z7t (h:Z.okD m n x) {i:Int} (h1:(Z.nd i).k=1):2≤i:=by
 have:=(h.live (i:=i) (by rw [h1];decide)).1
 have:i≠1:=fun e=>by rw [e,h.rt]at h1;cases h1
 omega
theorem Zfq (d:List Int) (p n:Int) (hp:0≤p):rdC d p n≤max 0 (d.length - p):=by unfold rdC;omega
theorem Z6j {Z:Tz} (h:Z.okD m n x):x0 Z.top=0:=Z2l _ (by have:=h.two;unfold Tz.top;omega)
theorem Zdb {o:Oz} (hE:Z.opE o=0):flOk o.fl=true∧Z.paE o.p 43=0∧Z.opF (Z.paI o.p) o.fl=0:=by
 unfold Tz.opE at hE
 split at hE
 · rename_i h1
   split at hE
   · rename_i h2;exact⟨h1,h2,hE⟩
   · rename_i h2;exact absurd hE h2
 · cases hE
theorem Zfm {i f:Int} (hE:Z.opF i f=0):(i≠0→(Z.nd i).k≠2)∧fdFr Z.t≠8:=by
 unfold Tz.opF at hE
 split at hE
 · rename_i h1
   split at hE
   · cases hE
   · split at hE
     · cases hE
     · rename_i h3;exact⟨fun e=>absurd h1 e,h3⟩
 · split at hE
   · cases hE
   · split at hE
     · cases hE
     · rename_i h2
       split at hE
       · cases hE
       · rename_i h3;exact⟨fun _=>h2,h3⟩
theorem Z81 (h:Z.ok n) {o:Oz} (hE:Z.opE o=0):((Z.opS1 (Z.paD o.p) (lsS o.p) (Z.paI o.p))).okD (n+3) (n+1) x0∧((Z.opS1 (Z.paD o.p) (lsS o.p) (Z.paI o.p)).nd (Z.opJ (Z.paI o.p))).k=1:=by
 obtain⟨h1,h2,h3⟩:=Zdb hE
 obtain⟨p1,p2,p3⟩:=Z1f h (by decide) h2
 obtain⟨f1,f2⟩:=Zfm h3
 unfold Tz.opS1 Tz.opJ
 by_cases e:Z.paI o.p=0
 · rw [if_pos e,if_pos e]
   exact⟨Zd9 h (.inl rfl) p1 p2 e (Z6j h),by rw [Zf4 (h.live (by rw [p1];decide)).2]⟩
 · rw [if_neg e,if_neg e]
   rcases p3 with p3 | p3
   · exact absurd p3 e
   · exact⟨h.mono (by omega) (by omega) (fun _ _ _=>rfl),Z1z h p3.2 (f1 e)⟩
theorem Zfl (h:Z.okD m n x) {j f:Int} (hj:(Z.nd j).k=1):(Z.opS2 j f).okD m n x∧((Z.opS2 j f).nd j).k=1:=by
 unfold Tz.opS2
 split
 · refine⟨h.dat hj [] (by simp) (fun b hb=>by cases hb),?_⟩
   unfold Tz.dat
   rw [Z20 (h.live (by rw [hj];decide)).2,if_pos rfl];exact hj
 · exact⟨h,hj⟩
theorem Zha (h:Z.ok n) {o:Oz} (hE:Z.opE o=0):(Z.opS o).ok (n+1):=by
 obtain⟨a1,a2⟩:=Z81 h hE
 obtain⟨b1,b2⟩:=Zfl a1 (f:=o.fl) a2
 have hf:=Z2b (Zdb hE).1
 unfold Tz.opS Tz.opS3
 exact Ze7 b1 b2 (by omega)
theorem Zg3 (h:Z.okD m n x) (hx:∀ j,2≤j→x j=0) {o:Oz} (hE:Z04 Z.t o.fd=0):(Z.clS o).okD m n x:=by
 obtain⟨f,g1,g2,g3,_⟩:=Z1m h hE
 unfold Tz.clS
 rw [g2]
 have i2:=Z7t h g3
 exact(Z7j h o.fd).gone (i:=f.i) (by show(Z.nd f.i).k≠0;rw [g3];decide) (hx _ i2) i2 (h.fi f.i g3)
theorem Zhc (h:Z.okD m n x) {o:Oz} (hE:Z.reE o=0):(Z.reS o).okD m n x:=by
 have hg:Z04 Z.t o.fd=0:=by
  unfold Tz.reE at hE;split at hE
  · rename_i e;exact e
  · cases hE
 obtain⟨f,g1,g2,g3,g4,g5,_⟩:=Z1m h hg
 unfold Tz.reS
 rw [g2]
 have:=Zfq (Z.nd f.i).d f.p o.n g4
 have:=h.dl f.i
 exact Z6r h _ _ (by omega)
theorem Z7e {o:Oz} (hE:Z.wrE o=0):Z04 Z.t o.fd=0∧(Z01 Z.t o.fd).p+o.d.length≤48640∧o.d.length≤4096∧¬(Z01 Z.t o.fd).m < 2:=by
 unfold Tz.wrE at hE
 split at hE
 · rename_i e
   split at hE
   · cases hE
   · rename_i e3
     split at hE
     · cases hE
     · rename_i e4
       split at hE
       · cases hE
       · rename_i e2;exact⟨e,by omega,by omega,e3⟩
 · cases hE
theorem Zht (h:Z.okD m n x) {o:Oz} (hE:Z.wrE o=0) (hb:∀ b ∈ o.d,0≤b∧b≤255):(Z.wrS o).okD m n x:=by
 obtain⟨h1,h2,_⟩:=Z7e hE
 obtain⟨f,g1,g2,g3,g4,g5,_⟩:=Z1m h h1
 unfold Tz.wrS
 split
 · exact h
 · rw [g2]at h2 ⊢
   refine Z6r (h.dat g3 _ ?_ (Z8i (h.db f.i) _ hb)) _ _ h2
   rw [Zen]
   have:=h.dl f.i
   omega
theorem Zho (h:Z.okD m n x) {o:Oz} (hE:Z.skE o=0):(Z.skS o).okD m n x:=by
 unfold Tz.skE at hE
 split at hE
 · split at hE
   · cases hE
   · rename_i e;exact Z6r h _ _ (by omega)
 · cases hE
theorem Zg4 (h:Z.okD m n x) {o:Oz} (hE:Z.cuE o=0):(Z.wa o.p).2=0∧(Z.nd (Z.wa o.p).1).k=1∧0≤o.n∧o.n≤48640:=by
 unfold Tz.cuE at hE
 split at hE
 · rename_i e
   split at hE
   · cases hE
   · rename_i e2
     split at hE
     · cases hE
     · split at hE
       · cases hE
       · exact⟨e,Z1z h (Z2d h e) e2,by omega,by omega⟩
 · rename_i e;exact absurd hE e
theorem Zg5 (h:Z.okD m n x) {o:Oz} (hE:Z.cuE o=0):(Z.cuS o).okD m n x:=by
 obtain⟨h1,h2,h3,h4⟩:=Zg4 h hE
 exact h.dat h2 _ (by rw [Z3w];omega) (Z3j (h.db _) _)
theorem Zgr {o:Oz} (hE:Z.mdE o=0):Z.paE o.p 41=0∧Z.paI o.p=0:=by
 unfold Tz.mdE at hE
 split at hE
 · rename_i e
   split at hE
   · rename_i e2;exact⟨e,e2⟩
   · cases hE
 · rename_i e;exact absurd hE e
theorem Zgs (h:Z.ok n) {o:Oz} (hE:Z.mdE o=0):(Z.mdS o).ok (n+1):=by
 obtain⟨h1,h2⟩:=Zgr hE
 obtain⟨p1,p2,p3⟩:=Z1f h (by decide) h1
 exact Zd9 h (.inr rfl) p1 p2 h2 (Z6j h)
theorem Zhd {o:Oz} (hE:Z.rmE o=0):Z.paE o.p 51=0∧Z.paI o.p≠0∧(Z.nd (Z.paI o.p)).k=2∧(Z.nd (Z.paI o.p)).nm= []:=by
 unfold Tz.rmE at hE
 split at hE
 · rename_i e
   split at hE
   · cases hE
   · rename_i e2
     split at hE
     · rename_i e3
       split at hE
       · rename_i e4;exact⟨e,e2,e3,e4⟩
       · cases hE
     · cases hE
 · rename_i e;exact absurd hE e
theorem Zhr {o:Oz} (hE:Z.ulE o=0):Z.paE o.p 43=0∧Z.paI o.p≠0∧(Z.nd (Z.paI o.p)).k≠2:=by
 unfold Tz.ulE at hE
 split at hE
 · rename_i e
   split at hE
   · cases hE
   · rename_i e2
     split at hE
     · cases hE
     · rename_i e3;exact⟨e,e2,e3⟩
 · rename_i e;exact absurd hE e
theorem Zbu (h:Z.okD m n x) (hx:∀ j,2≤j→x j=0) {o:Oz} {r:Int} (hr:r≠0) (h1:Z.paE o.p r=0) (h2:Z.paI o.p≠0) (h3:(Z.nd (Z.paI o.p)).nm= []):(Z.unS o).okD m n x:=by
 obtain⟨p1,p2,p3⟩:=Z1f h hr h1
 rcases p3 with p3 | p3
 · exact absurd p3 h2
 · exact Zdc h p1 rfl p3.1 hx (.inl h3)
theorem Zhe (h:Z.okD m n x) (hx:∀ j,2≤j→x j=0) {o:Oz} (hE:Z.rmE o=0):(Z.unS o).okD m n x:=by
 obtain⟨h1,h2,h3,h4⟩:=Zhd hE
 exact Zbu h hx (by decide) h1 h2 h4
theorem Zhs (h:Z.okD m n x) (hx:∀ j,2≤j→x j=0) {o:Oz} (hE:Z.ulE o=0):(Z.unS o).okD m n x:=by
 obtain⟨h1,h2,h3⟩:=Zhr hE
 obtain⟨p1,p2,p3⟩:=Z1f h (by decide) h1
 rcases p3 with p3 | p3
 · exact absurd p3 h2
 · exact Zbu h hx (by decide) h1 h2 (h.fi _ (Z1z h p3.2 h3))
theorem Zgp (h:Z.okD m n x) {o:Oz} (hE:Z.liE o=0):(Z.wa o.p).2=0∧(Z.nd (Z.wa o.p).1).k=1∧Z.paE o.q 41=0∧Z.paI o.q=0∧(Z.nd (Z.wa o.p).1).ln < 200:=by
 unfold Tz.liE at hE
 split at hE
 · rename_i e
   split at hE
   · cases hE
   · rename_i e2
     split at hE
     · rename_i e3
       split at hE
       · rename_i e4
         split at hE
         · cases hE
         · have:=h.lx (Z.wa o.p).1
           exact⟨e,Z1z h (Z2d h e) e2,e3,e4,by omega⟩
       · cases hE
     · rename_i e3;exact absurd hE e3
 · rename_i e;exact absurd hE e
theorem Zgq (h:Z.okD m n x) {o:Oz} (hE:Z.liE o=0):(Z.liS o).okD m (n+1) x:=by
 obtain⟨h1,h2,h3,h4,h5⟩:=Zgp h hE
 obtain⟨p1,p2,p3⟩:=Z1f h (by decide) h3
 exact Zau h p1 p2 h4 (Z7t h h2) (by rw [h2];decide) h5
theorem Zhf (h:Z.okD m n x) (hx:∀ j,2≤j→x j=0) {o:Oz} (hE:Z.rnE o=0):(Z.rnS o).okD m (n+1) x:=by
 unfold Tz.rnS
 split
 · exact h.mono (Nat.le_refl _) (Nat.le_succ _) (fun _ _ _=>rfl)
 · rename_i e
   have H:=Za6 h hE e
   rw [Zda h hx H]
   exact Zfc h H hx
theorem Z7m (h:Z.ok n) (o:Oz) (hb:∀ b ∈ o.d,0≤b∧b≤255):(Z.do1 o).ok (n+1):=by
 have up:∀ {Y:Tz},Y.okD (n+2) n x0→Y.ok (n+1):=fun h=>h.mono (by omega) (by omega) (fun _ _ _=>rfl)
 have up1:∀ {Y:Tz},Y.okD (n+2) (n+1) x0→Y.ok (n+1):=fun h=>h.mono (by omega) (by omega) (fun _ _ _=>rfl)
 unfold Tz.do1
 by_cases hE:Z.doE o=0
 · rw [if_pos hE]
   unfold Tz.doE at hE
   unfold Tz.doS
   by_cases k1:o.k=1
   · rw [if_pos k1]at hE ⊢;exact Zha h hE
   rw [if_neg k1]at hE ⊢
   by_cases k2:o.k=2
   · rw [if_pos k2]at hE ⊢;exact up (Zg3 h Z2l hE)
   rw [if_neg k2]at hE ⊢
   by_cases k3:o.k=3
   · rw [if_pos k3]at hE ⊢;exact up (Zhc h hE)
   rw [if_neg k3]at hE ⊢
   by_cases k4:o.k=4
   · rw [if_pos k4]at hE ⊢;exact up (Zht h hE hb)
   rw [if_neg k4]at hE ⊢
   by_cases k5:o.k=5
   · rw [if_pos k5]at hE ⊢;exact up (Zho h hE)
   rw [if_neg k5]at hE ⊢
   by_cases k6:o.k=6
   · rw [if_pos k6]at hE ⊢;exact up (Zg5 h hE)
   rw [if_neg k6]at hE ⊢
   by_cases k7:o.k=7
   · rw [if_pos k7]at hE ⊢;exact Zgs h hE
   rw [if_neg k7]at hE ⊢
   by_cases k8:o.k=8
   · rw [if_pos k8]at hE ⊢;exact up (Zhe h Z2l hE)
   rw [if_neg k8]at hE ⊢
   by_cases k9:o.k=9
   · rw [if_pos k9]at hE ⊢;exact up1 (Zgq h hE)
   rw [if_neg k9]at hE ⊢
   by_cases k10:o.k=10
   · rw [if_pos k10]at hE ⊢;exact up (Zhs h Z2l hE)
   rw [if_neg k10]at hE ⊢
   by_cases k11:o.k=11
   · rw [if_pos k11]at hE ⊢;exact up1 (Zhf h Z2l hE)
   rw [if_neg k11]
   exact up h
 · rw [if_neg hE];exact up h
end
end Go.Proofs.YtdnjddpfcgginaaGreat
