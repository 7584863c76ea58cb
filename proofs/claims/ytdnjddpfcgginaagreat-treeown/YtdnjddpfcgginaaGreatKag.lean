/-
  Texts of my own, joined: no statement is proved here.
-/
import Derived.Laws.CopyOwn
import Derived.Lib.Bytealg
import Derived.Lib.IndexLaws
import Derived.Lib.Join
import Derived.Lib.Strings
import Derived.Test.YtdnjddpfcgginaaGreatKad
import Derived.Test.YtdnjddpfcgginaaGreatKaf
set_option linter.unusedSimpArgs false
set_option linter.unusedVariables false
namespace Go.Proofs.YtdnjddpfcgginaaGreat
open Go.ChangeShapes Go.WideShapes Go.ChangeAt Go.RowKit
def OwV (w:World) (v:Value) (l:List Int):Prop:=w.ownsRow 0 3 1 v l.length (l.map (Value.int .i64))
section
variable {w w' : World} {v : Value} {l : List Int} {F : Nat → Prop}
theorem OwV.nil (w:World):OwV w (.slice none 0 0) []:=⟨rfl, .inl ⟨rfl,rfl⟩⟩
structure Rw1 (w:World) (g cap:Nat) (l:List Int) (cur:Array Value):Prop where
 at':w.heap[g]? =some (.cells cur 3 (0,0))
 le:l.length≤cap
 cm:cap≤maxLen
 size:cur.size=cap
 take:cur.toList.take l.length=l.map (Value.int .i64)
theorem OwV.row (h:OwV w v l):(v= .slice none 0 0∧l= [])∨∃ g cap cur,v= .slice (some ⟨g,0,none⟩) l.length cap∧Rw1 w g cap l cur:=by
 rcases h.2 with⟨h1,h2⟩ | ⟨g,cap,cur,h1,_,h3,h4,h5,h6,h7⟩
 · exact .inl ⟨h1,List.eq_nil_of_length_eq_zero h2⟩
 · rw [Nat.mul_one]at h6 h7
   exact .inr ⟨g,cap,cur,h1,h3,h4,h5,h6,h7⟩
theorem Rw1.own {g cap:Nat} {cur:Array Value} (h:Rw1 w g cap l cur):OwV w (.slice (some ⟨g,0,none⟩) l.length cap) l:=
 ⟨by simp, .inr ⟨g,cap,cur,rfl,Nat.zero_le _,h.at',h.le,h.cm,by rw [Nat.mul_one];exact h.size,by rw [Nat.mul_one];exact h.take⟩⟩
theorem Rw1.lt {g cap:Nat} {cur:Array Value} (h:Rw1 w g cap l cur):g < w.heap.size:=(Array.getElem?_eq_some_iff.1 h.at').1
theorem OwV.step (h:OwV w v l) (k:Stp F w w') (hF:∀ r,v.ownBlock=some r→¬F r):OwV w' v l:=by
 rcases h.row with⟨rfl,rfl⟩ | ⟨g,cap,cur,rfl,hw⟩
 · exact OwV.nil w'
 · exact Rw1.own (cur:=cur) ⟨by rw [k.block g hw.lt (hF g rfl)];exact hw.at',hw.le,hw.cm,hw.size,hw.take⟩
theorem OwV.later (h:OwV w v l) (k:Below w.heap.size w w'):OwV w' v l:=h.step (Stp.of_below k (fun _=>False)) (fun _ _=>id)
end
theorem OwV.shape {w:World} {v:Value} {l:List Int} (h:OwV w v l):∃ a n c,v= .slice a n c:=by
 rcases h.row with⟨e,_⟩ | ⟨g,cap,cur,e,_⟩
 · exact⟨_,_,_,e⟩
 · exact⟨_,_,_,e⟩
theorem OwV.ins {w:World} {v:Value} {l:List Int} {B:Nat} (h:OwV w v l) (hl:∀ x ∈ l,wfi x) (hN:New B v):∃ s:Sv,v=s.v∧s.n=l.length∧InsS w s l∧InE (fun x=>B≤x∧x < w.heap.size) s:=Zfr h hl hN
structure Fl where
 i:Int
 p:Int
 m:Int
def Fl.cs (f:Fl):List Value:= [.int .i64 f.i, .int .i64 f.p, .int .i64 f.m]
theorem Fl.cs_one (f:Fl):∀ v ∈ f.cs,v.oneCell'=true:=by
 intro v hv;unfold Fl.cs at hv;simp at hv;rcases hv with rfl | rfl | rfl<;>rfl
def Fl.zero:Fl:=⟨0,0,0⟩
abbrev FT:=Nat→Option Fl
def Z2s:FT:=fun _=>none
def fdUp (t:FT) (k:Nat) (v:Option Fl):FT:=fun j=>if j=k then v else t j
def Z1c (t:FT):Nat→Nat→Nat
 | 0,k=>k
 | n+1,k=>if (t k).isSome then Z1c t n (k+1)else k
def fdFr (t:FT):Nat:=Z1c t 8 0
def Z0g (t:FT) (i m:Int):FT:=if fdFr t=8 then t else fdUp t (fdFr t) (some ⟨i,0,m⟩)
def Z15 (t:FT):Int:=if fdFr t=8 then 0 else(fdFr t:Int)
def Z19 (t:FT):Int:=if fdFr t=8 then 47 else 0
def Z0u (t:FT) (x:Int):Option Fl:=if 0≤x∧x < 8 then t x.toNat else none
def Z01 (t:FT) (x:Int):Fl:=(Z0u t x).getD Fl.zero
def Z04 (t:FT) (x:Int):Int:=if (Z0u t x).isSome then 0 else 46
def Z0w (t:FT) (x p:Int):Int:=if (Z0u t x).isSome then(if p < 0 then 2 else 0)else 46
def Z0f (t:FT) (x p:Int):FT:=match Z0u t x with
 | some f=>if p < 0 then t else fdUp t x.toNat (some ⟨f.i,p,f.m⟩)
 | none=>t
def Z12 (t:FT) (x:Int):FT:=match Z0u t x with
 | some _=>fdUp t x.toNat none
 | none=>t
def fdUs (t:FT):Nat→List Int
 | 0=> []
 | k+1=>fdUs t k++(if (t k).isSome then [(k:Int)]else [])
def fdCt (t:FT) (x:Int):Nat→Int
 | 0=>0
 | k+1=>fdCt t x k+(match t k with | some f=>if f.i=x then 1 else 0 | none=>0)
def fdCl (t:FT) (x:Int):List Int→Int
 | []=>0
 | y::r=>(match t y.toNat with | some f=>if f.i=x then 1 else 0 | none=>0)+fdCl t x r
theorem Z7q (t:FT):∀ (n k j:Nat),k≤j→j≤k+n→(∀ i,k≤i→i < j→(t i).isSome=true)→(j=k+n∨t j=none)→Z1c t n k=j
 | 0,k,j,h1,h2,_,_=>by unfold Z1c;omega
 | n+1,k,j,h1,h2,h3,h4=>by
   unfold Z1c
   by_cases e:k=j
   · subst e
     rcases h4 with h4 | h4
     · omega
     · simp [h4]
   · rw [if_pos (h3 k (Nat.le_refl _) (by omega))]
     exact Z7q t n (k+1) j (by omega) (by omega) (fun i h5 h6=>h3 i (by omega) h6) (h4.imp (fun h=>by omega) id)
theorem Z4b {t:FT} {j:Nat} (h1:j≤8) (h2:∀ i,i < j→(t i).isSome=true) (h3:j=8∨t j=none):fdFr t=j:=
 Z7q t 8 0 j (Nat.zero_le _) (by omega) (fun i _ h=>h2 i h) (h3.imp (fun h=>by omega) id)
theorem Z7r (t:FT):∀ (n k:Nat),k≤Z1c t n k∧Z1c t n k≤k+n
 | 0,k=>by unfold Z1c;omega
 | n+1,k=>by
   unfold Z1c
   have:=Z7r t n (k+1)
   split<;>omega
theorem Zdx (t:FT):fdFr t≤8:=by have:=Z7r t 8 0;unfold fdFr;omega
theorem Z5u (t:FT):∀ (n k:Nat),(∀ i,k≤i→i < Z1c t n k→(t i).isSome=true)∧(Z1c t n k=k+n∨t (Z1c t n k)=none)
 | 0,k=>by unfold Z1c;exact⟨fun i h1 h2=>by omega, .inl rfl⟩
 | n+1,k=>by
   unfold Z1c
   by_cases e:(t k).isSome=true
   · rw [if_pos e]
     have ⟨h1,h2⟩:=Z5u t n (k+1)
     refine⟨fun i h3 h4=>?_,h2.imp (fun h=>by omega) id⟩
     by_cases e2:i=k
     · subst e2;exact e
     · exact h1 i (by omega) h4
   · rw [if_neg e]
     exact⟨fun i h1 h2=>by omega, .inr (by cases h:t k with | none=>rfl | some f=>rw [h]at e;exact absurd rfl e)⟩
theorem Zao {t:FT} (h:fdFr t≠8):t (fdFr t)=none:=by
 have:=(Z5u t 8 0).2
 unfold fdFr at *
 rcases this with e | e
 · omega
 · exact e
theorem Z2x (t:FT):∀ k,(fdUs t k).length≤k
 | 0=>Nat.le_refl _
 | k+1=>by unfold fdUs;rw [List.length_append];have:=Z2x t k;split<;>simp<;>omega
theorem Z4q (t:FT):∀ k,∀ x ∈ fdUs t k,∃ j:Nat,x=(j:Int)∧j < k∧(t j).isSome=true
 | 0=>fun x h=>by cases h
 | k+1=>fun x h=>by
   unfold fdUs at h
   rcases List.mem_append.1 h with h | h
   · obtain⟨j,h1,h2,h3⟩:=Z4q t k x h;exact⟨j,h1,by omega,h3⟩
   · split at h
     · rename_i e;simp at h;exact⟨k,h,by omega,e⟩
     · cases h
def fdC1 (t:FT) (x:Int) (y:Int):Int:=match t y.toNat with | some f=>if f.i=x then 1 else 0 | none=>0
theorem Z5c (t:FT) (x y:Int) (r:List Int):fdCl t x (y::r)=fdC1 t x y+fdCl t x r:=rfl
theorem Z7o (t:FT) (x:Int):∀ (a b:List Int),fdCl t x (a++b)=fdCl t x a+fdCl t x b
 | [],b=>by simp [fdCl]
 | y::r,b=>by rw [List.cons_append,Z5c,Z5c,Z7o t x r b];omega
theorem Z94 (t:FT) (x:Int):∀ k,fdCl t x (fdUs t k)=fdCt t x k
 | 0=>rfl
 | k+1=>by
   unfold fdUs fdCt
   rw [Z7o,Z94 t x k]
   congr 1
   cases h:t k with
   | none=>simp [fdCl]
   | some f=>simp [fdCl,h]
theorem Z68 (t:FT) (x:Int):∀ k,0≤fdCt t x k∧fdCt t x k≤k
 | 0=>by unfold fdCt;omega
 | k+1=>by
   unfold fdCt
   have:=Z68 t x k
   cases t k with
   | none=>simp only;omega
   | some f=>simp only;split<;>omega
theorem Z57 (t:FT):∀ k,(fdUs t k).length=k↔∀ i,i < k→(t i).isSome=true
 | 0=>by simp [fdUs]
 | k+1=>by
   unfold fdUs
   rw [List.length_append]
   have h1:=Z2x t k
   have ih:=Z57 t k
   by_cases e:(t k).isSome=true
   · rw [if_pos e]
     constructor
     · intro h i hi
       by_cases e2:i=k
       · subst e2;exact e
       · exact ih.1 (by simp at h;omega) i (by omega)
     · intro h;have:=ih.2 (fun i hi=>h i (by omega));simp;omega
   · rw [if_neg e]
     constructor
     · intro h;simp at h;omega
     · intro h;exact absurd (h k (by omega)) e
theorem Z42 (t:FT):(fdUs t 8).length=8↔fdFr t=8:=by
 rw [Z57]
 constructor
 · intro h;exact Z4b (Nat.le_refl _) h (.inl rfl)
 · intro h i hi
   have:=(Z5u t 8 0).1 i (Nat.zero_le _)
   unfold fdFr at h
   rw [h]at this;exact this hi
theorem Z29 {t:FT} {k:Nat} (h:k < 8):Z0u t (k:Int)=t k:=by unfold Z0u;rw [if_pos (by omega),Int.toNat_natCast]
set_option maxRecDepth 100000
def lo2 (x:Nat):List UInt8:= [UInt8.ofNat (x % 256),UInt8.ofNat (x / 256 % 256)]
structure Ino where
 k:UInt8
 n:UInt8
 s:UInt32
 d0:UInt16
 d1:UInt16
 d2:UInt16
 d3:UInt16
 p:UInt16
 q:UInt16
def iL (x:Ino):List UInt8:= [x.k,x.n]++u4 x.s.toNat++lo2 x.d0.toNat++lo2 x.d1.toNat++lo2 x.d2.toNat++lo2 x.d3.toNat++lo2 x.p.toNat++lo2 x.q.toNat
abbrev isF (f:Int):Prop:=0≤f∧f≤9
def fAt (f:Nat):Nat:= [0,1,2,6,8,10,12,14,16,2].getD f 0
def fSz (f:Nat):Nat:= [18,1,4,2,2,2,2,2,2,16].getD f 0
def Zgb (x:Ino) (f:Nat):List UInt8:=((iL x).drop (fAt f)).take (fSz f)
def fB (x:Ino) (f:Int):List UInt8:=if isF f then Zgb x f.toNat else []
def str (l:List UInt8):ByteArray:=⟨l.toArray⟩
theorem Z1t (l:List UInt8):(str l).size=l.length:=by unfold str;simp [ByteArray.size]
theorem Z17 (l:List UInt8):(str l).toList=l:=ByteArray.toList_mk l
theorem Z6t (l:List UInt8) (k:Nat) (h:k < (str l).size):(str l)[k]'h=l.getD k 0:=by
 rw [Z1t]at h
 rw [List.getD_eq_getElem?_getD,List.getElem?_eq_getElem h]
 show(str l).data[k]'_=_
 unfold str;exact List.getElem_toArray _
theorem Zbo (s:ByteArray):s=str s.data.toList:=by unfold str;simp
theorem Z9n (l:List UInt8) (k:Nat):(str l).extract 0 k=str (l.take k):=by
 apply ByteArray.ext
 unfold str;simp
abbrev okB (b:UInt8):Prop:=33≤b.toNat∧b.toNat≤126∧b.toNat≠47
abbrev hdOk (l:List UInt8):Prop:=1≤l.length∧l.length≤10∧l≠ [46]∧l≠ [46,46]
def nm (l:List UInt8):Bool:=decide (hdOk l∧∀ b ∈ l,okB b)
def nE (l:List UInt8):Int:=if nm l=true then 0 else 45
theorem Zh6 {l:List UInt8} (h:nm l=true):hdOk l∧∀ b ∈ l,okB b:=of_decide_eq_true h
theorem Zax {l:List UInt8} (k:Nat) (hk:k < l.length) (h:¬okB (l.getD k 0)):nm l=false:=by
 refine decide_eq_false fun hh=>h (hh.2 _ ?_)
 rw [List.getD_eq_getElem?_getD,List.getElem?_eq_getElem hk];exact List.getElem_mem hk
theorem Zaw {l:List UInt8} (hd:hdOk l) (h:∀ k,k < l.length→okB (l.getD k 0)):nm l=true:=by
 refine decide_eq_true ⟨hd,fun b hb=>?_⟩
 obtain⟨k,hk,rfl⟩:=List.getElem_of_mem hb
 have:=h k hk
 rwa [List.getD_eq_getElem?_getD,List.getElem?_eq_getElem hk]at this
theorem Z46 {l:List UInt8} (h:¬hdOk l):nm l=false:=decide_eq_false fun hh=>h hh.1
structure Ent where
 n:Int
 s:List UInt8
def Ent.zero:Ent:=⟨0, []⟩
def prt:List UInt8→List (List UInt8)
 | []=> [[]]
 | b::r=>if b=47 then []::prt r else match prt r with | []=> [[b]] | x::xs=>(b::x)::xs
theorem Z6a:∀ l,prt l≠ []
 | []=>by simp [prt]
 | b::r=>by
   unfold prt
   split
   · simp
   · split<;>simp
theorem Z4h (r:List UInt8):prt (47::r)= []::prt r:=by simp [prt]
theorem Z4g {b:UInt8} (h:b≠47) (r:List UInt8):∃ x xs,prt r=x::xs∧prt (b::r)=(b::x)::xs:=by
 cases e:prt r with
 | nil=>exact absurd e (Z6a r)
 | cons x xs=>exact⟨x,xs,rfl,by simp [prt,h,e]⟩
theorem Z9h:∀ (x:List UInt8),(∀ b ∈ x,b≠47)→prt x= [x]
 | [],_=>rfl
 | b::x,h=>by
   obtain⟨y,ys,e1,e2⟩:=Z4g (h b (by simp)) x
   rw [Z9h x (fun c hc=>h c (by simp [hc]))]at e1
   injection e1 with e1 e3
   rw [e2,← e1,← e3]
theorem Z9f:∀ (x r:List UInt8),(∀ b ∈ x,b≠47)→prt (x++47::r)=x::prt r
 | [],r,_=>Z4h r
 | b::x,r,h=>by
   obtain⟨y,ys,e1,e2⟩:=Z4g (h b (by simp)) (x++47::r)
   rw [Z9f x r (fun c hc=>h c (by simp [hc]))]at e1
   injection e1 with e1 e3
   rw [List.cons_append,e2,← e1,← e3]
theorem Z5y:∀ (p x:List UInt8) (xs:List (List UInt8)),prt p=x::xs→p=x++(xs.map (47:: ·)).flatten
 | [],x,xs,h=>by
   simp [prt]at h
   obtain⟨rfl,rfl⟩:=h
   rfl
 | b::r,x,xs,h=>by
   by_cases hb:b=47
   · subst hb
     rw [Z4h]at h
     injection h with h1 h2
     subst h1
     cases e:prt r with
     | nil=>exact absurd e (Z6a r)
     | cons y ys=>
       have:=Z5y r y ys e
       rw [← h2,e,List.map_cons,List.flatten_cons,this]
       simp
   · obtain⟨y,ys,e1,e2⟩:=Z4g hb r
     rw [e2]at h
     injection h with h1 h2
     subst h1;subst h2
     have:=Z5y r y ys e1
     rw [this];simp
theorem Z6p:∀ (l:List UInt8),(Lib.indexByte l 47= -1∧prt l= [l])∨∃ i:Nat,Lib.indexByte l 47=(i:Int)∧i < l.length∧prt l=l.take i::prt (l.drop (i+1))
 | []=> .inl ⟨rfl,rfl⟩
 | b::r=>by
   by_cases hb:b=47
   · subst hb
     exact .inr ⟨0,by simp [Lib.indexByte],by simp,by simp [Z4h]⟩
   · have hb':(b==47)=false:=by simpa using hb
     obtain⟨y,ys,e1,e2⟩:=Z4g hb r
     rcases Z6p r with⟨h1,h2⟩ | ⟨i,h1,h2,h3⟩
     · left
       rw [h2]at e1
       injection e1 with e1 e3
       exact⟨by simp [Lib.indexByte,hb',h1],by rw [e2,← e1,← e3]⟩
     · right
       rw [h3]at e1
       injection e1 with e1 e3
       refine⟨i+1,?_,by simp;omega,?_⟩
       · have hne:¬Lib.indexByte r 47= -1:=by omega
         simp [Lib.indexByte,hb',hne,h1]
       · rw [e2,← e1,← e3];simp
def okN (L:List (List UInt8)):Bool:=L.all nm
def jE (L:List (List UInt8)):Int:=if okN L=true then(if 16 < L.length then 3 else 0)else 45
def sls (L:List (List UInt8)):List UInt8:=(L.map (47:: ·)).flatten
def jS (L:List (List UInt8)):List UInt8:=if jE L=0 then(if L= []then [47]else sls L)else []
def spE (p:List UInt8):Int:=if p= [47]then 0 else match prt p with | []::y::ys=>jE (y::ys) | _=>45
def spN (p:List UInt8):List (List UInt8):=if spE p=0∧p≠ [47]then(prt p).tail else []
def lsE (p:List UInt8):Int:=if spE p=0 then(if spN p= []then 2 else 0)else spE p
def lsN (p:List UInt8):List (List UInt8):=(spN p).dropLast
def lsS (p:List UInt8):List UInt8:=(spN p).getLastD []
def insB (a b:List (List UInt8)):Bool:=decide (a.length < b.length∧b.take a.length=a)
theorem Z9d {L:List (List UInt8)} (h:okN L=true):∀ x ∈ L,nm x=true:=fun x hx=>List.all_eq_true.1 h x hx
theorem Ze6 {L:List (List UInt8)} (x:List UInt8) (hx:x ∈ L) (h:nm x=false):okN L=false:=by
 cases e:okN L with
 | false=>rfl
 | true=>rw [Z9d e x hx]at h;cases h
theorem Zap {L:List (List UInt8)} (x:List UInt8) (hx:x ∈ L) (h:nm x=false):jE L=45:=by unfold jE;rw [if_neg (by rw [Ze6 x hx h];decide)]
theorem Z7x {L:List (List UInt8)} (h:∀ x ∈ L,nm x=true):jE L=if 16 < L.length then 3 else 0:=by unfold jE;rw [if_pos (show okN L=true from List.all_eq_true.2 h)]
theorem Z9w {L:List (List UInt8)} (h:jE L=0):(∀ x ∈ L,nm x=true)∧L.length≤16:=by
 unfold jE at h
 by_cases e:okN L=true
 · rw [if_pos e]at h
   refine⟨Z9d e,?_⟩
   by_cases h2:16 < L.length
   · rw [if_pos h2]at h;cases h
   · omega
 · rw [if_neg e]at h;cases h
theorem Z3i {x:List UInt8} (h:nm x=true):(∀ b ∈ x,b≠47)∧x≠ []∧x.length≤10:=by
 obtain⟨h1,h2⟩:=Zh6 h
 refine⟨fun b hb e=>?_,fun e=>?_,h1.2.1⟩
 · subst e;exact(h2 _ hb).2.2 rfl
 · subst e;have:=h1.1;simp at this
theorem Z4u {p:List UInt8} (h:spE p=0):jE (spN p)=0∧jS (spN p)=p:=by
 by_cases hp:p= [47]
 · subst hp
   have e:spN [47]= []:=by simp [spN]
   rw [e]
   exact⟨by decide,by decide⟩
 · have e:spN p=(prt p).tail:=by unfold spN;rw [if_pos ⟨h,hp⟩]
   rw [e]
   unfold spE at h
   rw [if_neg hp]at h
   revert h
   generalize hq:prt p=q
   intro h
   match q,hq,h with
   | []::y::ys,hq,h=>
     refine⟨h,?_⟩
     show jS (y::ys)=p
     unfold jS
     rw [if_pos h,if_neg (by simp)]
     have:=Z5y p _ _ hq
     rw [this];rfl
theorem Z6g {p:List UInt8} (h:spE p≠0):spN p= []:=by unfold spN;rw [if_neg (fun e=>h e.1)]
theorem Z3t (p:List UInt8):(spN p).length≤16:=by
 by_cases h:spE p=0
 · exact(Z9w (Z4u h).1).2
 · rw [Z6g h];simp
theorem Z6y {p:List UInt8} (h:lsE p=0):spE p=0∧spN p≠ []∧lsN p++ [lsS p]=spN p:=by
 unfold lsE at h
 by_cases h1:spE p=0
 · rw [if_pos h1]at h
   by_cases h2:spN p= []
   · rw [if_pos h2]at h;cases h
   · refine⟨h1,h2,?_⟩
     unfold lsN lsS
     rw [List.getLastD_eq_getLast?,List.getLast?_eq_some_getLast h2,Option.getD_some,List.dropLast_concat_getLast]
 · rw [if_neg h1]at h;exact absurd h h1
abbrev ltB (a b:List UInt8):Bool:=Go.Op.bytesLess a b
theorem Z36:∀ {a b:List UInt8},ltB a b=true↔a < b
 | a, []=>by simp [ltB,Go.Op.bytesLess]
 | [],b::y=>by simp [ltB,Go.Op.bytesLess]
 | a::x,b::y=>by
   have ih:= @Z36 x y
   unfold ltB at *
   rw [List.cons_lt_cons_iff]
   simp only [Go.Op.bytesLess,Bool.or_eq_true,decide_eq_true_eq,Bool.and_eq_true,beq_iff_eq,ih]
theorem Z4d (a:List UInt8):ltB a a=false:=by
 cases h:ltB a a with
 | false=>rfl
 | true=>exact absurd (Z36.1 h) (List.lt_irrefl a)
theorem Z45 {a b c:List UInt8} (h:ltB a b=true) (k:ltB b c=true):ltB a c=true:=Z36.2 (List.lt_trans (Z36.1 h) (Z36.1 k))
theorem Z6o {a b:List UInt8} (h:ltB a b=false) (k:a≠b):ltB b a=true:=by
 refine Z36.2 ?_
 have h1:¬a < b:=fun e=>by rw [Z36.2 e]at h;cases h
 have h2:b≤a:=List.not_lt.1 h1
 rcases List.le_iff_lt_or_eq.1 h2 with e | e
 · exact e
 · exact absurd e.symm k
theorem Z37 {a b:List UInt8} (h:ltB a b=true):a≠b:=fun e=>by rw [e,Z4d]at h;cases h
def Srd (l:List Ent):Prop:=l.Pairwise fun a b=>ltB a.s b.s=true
theorem Srd.tail {e:Ent} {r:List Ent} (h:Srd (e::r)):Srd r:=(List.pairwise_cons.1 h).2
theorem Srd.head {e:Ent} {r:List Ent} (h:Srd (e::r)):∀ x ∈ r,ltB e.s x.s=true:=(List.pairwise_cons.1 h).1
def lk:List Ent→List UInt8→Int
 | [],_=>0
 | e::r,s=>if e.s=s then e.n else lk r s
theorem Z4w {l:List Ent} {s:List UInt8} (h:∀ e ∈ l,e.s≠s):lk l s=0:=by
 induction l with
 | nil=>rfl
 | cons e r ih=>unfold lk;rw [if_neg (h e (by simp))];exact ih (fun x hx=>h x (by simp [hx]))
theorem Z3x {l:List Ent} {s:List UInt8} (h:lk l s≠0):∃ e ∈ l,e.s=s∧e.n=lk l s:=by
 induction l with
 | nil=>exact absurd rfl h
 | cons e r ih=>
   unfold lk at h ⊢
   by_cases hs:e.s=s
   · rw [if_pos hs];exact⟨e,by simp,hs,rfl⟩
   · rw [if_neg hs]at h ⊢
     obtain⟨x,h1,h2,h3⟩:=ih h
     exact⟨x,by simp [h1],h2,h3⟩
theorem Zd8 {l:List Ent} (h:Srd l) {e:Ent} (he:e ∈ l):lk l e.s=e.n:=by
 induction l with
 | nil=>cases he
 | cons a r ih=>
   unfold lk
   rcases List.mem_cons.1 he with rfl | he
   · rw [if_pos rfl]
   · rw [if_neg (Z37 (h.head e he))];exact ih h.tail he
def ins0 (s:List UInt8) (i:Int):List Ent:=if i=0 then []else [⟨i,s⟩]
def ptL:List Ent→List UInt8→Int→List Ent
 | [],s,i=>ins0 s i
 | e::r,s,i=>if ltB e.s s=true then e::ptL r s i else if e.s=s then ins0 s i++r else ins0 s i++e::r
theorem Z5v {s:List UInt8} {i:Int} {e:Ent} (h:e ∈ ins0 s i):e=⟨i,s⟩∧i≠0:=by
 unfold ins0 at h
 split at h
 · cases h
 · rename_i h2;exact⟨List.mem_singleton.1 h,h2⟩
theorem Z7w (s:List UInt8) (i:Int):(ins0 s i).length≤1:=by unfold ins0;split<;>simp
theorem Z2c {l:List Ent} (hl:Srd l) {s:List UInt8} {i:Int} {e:Ent} (h:e ∈ ptL l s i):(e ∈ l∧e.s≠s)∨(e=⟨i,s⟩∧i≠0):=by
 induction l with
 | nil=>exact .inr (Z5v h)
 | cons a r ih=>
   unfold ptL at h
   split at h
   · rename_i h1
     rcases List.mem_cons.1 h with rfl | h
     · exact .inl ⟨by simp,Z37 h1⟩
     · rcases ih hl.tail h with⟨h2,h3⟩ | h2
       · exact .inl ⟨by simp [h2],h3⟩
       · exact .inr h2
   · rename_i h1
     have h1':ltB a.s s=false:=by simpa using h1
     split at h
     · rename_i h2
       rcases List.mem_append.1 h with h | h
       · exact .inr (Z5v h)
       · exact .inl ⟨by simp [h],fun e1=>by have:=Z37 (hl.head e h);rw [h2,e1]at this;exact this rfl⟩
     · rename_i h2
       rcases List.mem_append.1 h with h | h
       · exact .inr (Z5v h)
       · refine .inl ⟨h,fun e1=>?_⟩
         rcases List.mem_cons.1 h with rfl | h
         · exact h2 e1
         · have h3:=hl.head e h
           rw [e1,h1']at h3;cases h3
theorem Z6q (l:List Ent) (s:List UInt8) (i:Int):(ptL l s i).length≤l.length+1:=by
 induction l with
 | nil=>unfold ptL;have:=Z7w s i;simp;omega
 | cons a r ih=>
   unfold ptL
   have:=Z7w s i
   split
   · simp;omega
   · split<;>simp<;>omega
theorem Zcp (l:List Ent) (s:List UInt8):(ptL l s 0).length≤l.length:=by
 induction l with
 | nil=>simp [ptL,ins0]
 | cons a r ih=>
   unfold ptL
   split
   · simp;omega
   · split<;>simp [ins0]
theorem Z1a {l:List Ent} (hl:Srd l) (s:List UInt8) (i:Int):Srd (ptL l s i):=by
 induction l with
 | nil=>unfold ptL ins0;split<;>simp [Srd]
 | cons a r ih=>
   unfold ptL
   split
   · rename_i h1
     refine List.pairwise_cons.2 ⟨fun x hx=>?_,ih hl.tail⟩
     rcases Z2c hl.tail hx with⟨h2,_⟩ | ⟨h2,_⟩
     · exact hl.head x h2
     · rw [h2];exact h1
   · rename_i h1
     have h1':ltB a.s s=false:=by simpa using h1
     split
     · rename_i h2
       unfold ins0
       split
       · exact hl.tail
       · exact List.pairwise_cons.2 ⟨fun x hx=>by rw [← h2];exact hl.head x hx,hl.tail⟩
     · rename_i h2
       have h3:=Z6o h1' h2
       unfold ins0
       split
       · exact hl
       · refine List.pairwise_cons.2 ⟨fun x hx=>?_,hl⟩
         rcases List.mem_cons.1 hx with rfl | hx
         · exact h3
         · exact Z45 h3 (hl.head x hx)
theorem Z6n (s:List UInt8) (i:Int) (r:List Ent) (x:List UInt8):lk (ins0 s i++r) x=if i≠0∧x=s then i else lk r x:=by
 unfold ins0
 by_cases h:i=0
 · simp [h]
 · by_cases h2:x=s
   · subst h2;simp [h,lk]
   · simp only [if_neg h,List.cons_append,List.nil_append,lk,h2,and_false,if_false]
     rw [if_neg (fun e=>h2 e.symm)]
theorem Z1n {l:List Ent} (hl:Srd l) (s:List UInt8) (i:Int) (x:List UInt8):lk (ptL l s i) x=if x=s then i else lk l x:=by
 induction l with
 | nil=>
   have:=Z6n s i [] x
   simp only [List.append_nil]at this
   unfold ptL
   rw [this]
   by_cases h:x=s
   · by_cases h2:i=0
     · simp [h,h2,lk]
     · simp [h,h2]
   · simp [h]
 | cons a r ih=>
   unfold ptL
   by_cases h1:ltB a.s s=true
   · rw [if_pos h1]
     unfold lk
     rw [ih hl.tail]
     by_cases h:x=s
     · rw [if_neg (fun e=>by rw [e,h]at h1;rw [Z4d]at h1;cases h1),if_pos h,if_pos h]
     · rw [if_neg h,if_neg h]
   · rw [if_neg h1]
     have h1':ltB a.s s=false:=by simpa using h1
     have hx:∀ y ∈ r,y.s=s→a.s=s→False:=fun y hy e1 e2=>by have:=Z37 (hl.head y hy);rw [e1,e2]at this;exact this rfl
     by_cases h2:a.s=s
     · rw [if_pos h2,Z6n]
       by_cases h:x=s
       · by_cases h0:i=0
         · simp only [h0,ne_eq,not_true_eq_false,false_and,if_false,h,if_true]
           exact Z4w (fun y hy e=>hx y hy e h2)
         · simp [h,h0]
       · simp only [h,and_false,if_false]
         conv=>rhs;unfold lk
         rw [if_neg (fun e=>h (e.symm.trans h2))]
     · rw [if_neg h2,Z6n]
       by_cases h:x=s
       · by_cases h0:i=0
         · simp only [h0,ne_eq,not_true_eq_false,false_and,if_false,h,if_true]
           refine Z4w (fun y hy e=>?_)
           rcases List.mem_cons.1 hy with rfl | hy
           · exact h2 e
           · have:=hl.head y hy
             rw [e,h1']at this;cases this
         · simp [h,h0]
       · simp [h]
def cn:List Ent→Int→Int
 | [],_=>0
 | e::r,i=>(if e.n=i then 1 else 0)+cn r i
theorem Z3r (e:Ent) (r:List Ent) (i:Int):cn (e::r) i=(if e.n=i then 1 else 0)+cn r i:=rfl
theorem Z7k (l:List Ent) (i:Int):0≤cn l i:=by
 induction l with
 | nil=>simp [cn]
 | cons e r ih=>unfold cn;split<;>omega
theorem Zaj (a b:List Ent) (i:Int):cn (a++b) i=cn a i+cn b i:=by
 induction a with
 | nil=>simp [cn]
 | cons e r ih=>rw [List.cons_append,Z3r,Z3r,ih];omega
theorem Zet {l:List Ent} {e:Ent} (h:e ∈ l):1≤cn l e.n:=by
 induction l with
 | nil=>cases h
 | cons a r ih=>
   unfold cn
   have:=Z7k r e.n
   rcases List.mem_cons.1 h with rfl | h
   · rw [if_pos rfl];omega
   · have:=ih h;split<;>omega
theorem Z6m (s:List UInt8) (i j:Int) (hj:j≠0):cn (ins0 s i) j=if i=j then 1 else 0:=by
 unfold ins0
 by_cases h:i=0
 · rw [if_pos h,if_neg (by omega)];rfl
 · rw [if_neg h];simp [cn]
theorem Z67 {l:List Ent} (hl:Srd l) (s:List UInt8) (i j:Int) (hj:j≠0):cn (ptL l s i) j+(if lk l s=j then 1 else 0)=cn l j+(if i=j then 1 else 0):=by
 induction l with
 | nil=>
   have e0:lk [] s=0:=rfl
   unfold ptL
   rw [Z6m s i j hj,e0,if_neg (show ¬(0:Int)=j by omega)]
   simp [cn]
 | cons a r ih=>
   unfold ptL
   by_cases h1:ltB a.s s=true
   · have:=ih hl.tail
     rw [if_pos h1,Z3r,Z3r]
     unfold lk
     rw [if_neg (Z37 h1)]
     omega
   · rw [if_neg h1]
     have h1':ltB a.s s=false:=by simpa using h1
     by_cases h2:a.s=s
     · rw [if_pos h2,Zaj,Z6m s i j hj,Z3r]
       unfold lk
       rw [if_pos h2]
       omega
     · have h0:lk (a::r) s=0:=Z4w (fun y hy e=>by
        rcases List.mem_cons.1 hy with rfl | hy
        · exact h2 e
        · have:=hl.head y hy
          rw [e,h1']at this;cases this)
       rw [if_neg h2,Zaj,Z6m s i j hj,h0,if_neg (show ¬(0:Int)=j by omega)]
       omega
theorem Z5m:∀ {l m:List Ent},Srd l→Srd m→(∀ e ∈ l,e.n≠0)→(∀ e ∈ m,e.n≠0)→(∀ x,lk l x=lk m x)→l=m
 | [], [],_,_,_,_,_=>rfl
 | [],e::r,_,_,_,h,k=>by
   have:=k e.s
   unfold lk at this
   rw [if_pos rfl]at this
   exact absurd this.symm (h e (by simp))
 | e::r, [],_,_,h,_,k=>by
   have:=k e.s
   unfold lk at this
   rw [if_pos rfl]at this
   exact absurd this (h e (by simp))
 | e::r,f::q,hl,hm,h1,h2,k=>by
   have ke:=k e.s
   have kf:=k f.s
   have he:lk (e::r) e.s=e.n:=by unfold lk;rw [if_pos rfl]
   have hf:lk (f::q) f.s=f.n:=by unfold lk;rw [if_pos rfl]
   have hs:e.s=f.s:=by
    by_cases hs:e.s=f.s
    · exact hs
    · exfalso
      cases hb:ltB e.s f.s with
      | true=>
        have :lk (f::q) e.s=0:=Z4w (fun y hy e1=>by
         rcases List.mem_cons.1 hy with rfl | hy
         · exact hs e1.symm
         · have:=Z45 hb (hm.head y hy)
           rw [e1,Z4d]at this;cases this)
        rw [he,this]at ke
        exact h1 e (by simp) ke
      | false=>
        have hb2:=Z6o hb hs
        have :lk (e::r) f.s=0:=Z4w (fun y hy e1=>by
         rcases List.mem_cons.1 hy with rfl | hy
         · exact hs e1
         · have:=Z45 hb2 (hl.head y hy)
           rw [e1,Z4d]at this;cases this)
        rw [hf,this]at kf
        exact h2 f (by simp) kf.symm
   have hn:e.n=f.n:=by rw [he,hs,hf]at ke;exact ke
   have hef:e=f:=by cases e;cases f;simp at hs hn;rw [hs,hn]
   subst hef
   rw [Z5m hl.tail hm.tail (fun x hx=>h1 x (by simp [hx])) (fun x hx=>h2 x (by simp [hx])) (fun x=>by
    have:=k x
    unfold lk at this
    by_cases hx:e.s=x
    · subst hx
      rw [Z4w (fun y hy e1=>Z37 (hl.head y hy) e1.symm),Z4w (fun y hy e1=>Z37 (hm.head y hy) e1.symm)]
    · rw [if_neg hx,if_neg hx]at this;exact this)]
structure Nd where
 k:Int
 ln:Int
 d:List Int
 nm:List Ent
def Nd.zero:Nd:=⟨0,0, [], []⟩
structure Tz where
 N:List Nd
 t:FT
def Tz.nd (Z:Tz) (i:Int):Nd:=Z.N.getD i.toNat Nd.zero
def Tz.top (Z:Tz):Int:=(Z.N.length:Int)
def Tz.up (Z:Tz) (i:Int) (x:Nd):Tz:=⟨Z.N.set i.toNat x,Z.t⟩
def Tz.fds (Z:Tz) (t:FT):Tz:=⟨Z.N,t⟩
def Tz.come (Z:Tz) (k:Int):Tz:=⟨Z.N++ [⟨k,0, [], []⟩],Z.t⟩
def Tz.put (Z:Tz) (d:Int) (s:List UInt8) (i:Int):Tz:=Z.up d ⟨(Z.nd d).k,(Z.nd d).ln,(Z.nd d).d,ptL (Z.nd d).nm s i⟩
def Tz.lnk (Z:Tz) (i y:Int):Tz:=Z.up i ⟨(Z.nd i).k,(Z.nd i).ln+y,(Z.nd i).d,(Z.nd i).nm⟩
def Tz.dat (Z:Tz) (i:Int) (d:List Int):Tz:=Z.up i ⟨(Z.nd i).k,(Z.nd i).ln,d,(Z.nd i).nm⟩
def Tz.gone (Z:Tz) (i:Int):Tz:=if (Z.nd i).ln=0∧fdCt Z.t i 8=0 then Z.up i Nd.zero else Z
def Tz.new:Tz:=⟨[Nd.zero,⟨2,1, [], []⟩],Z2s⟩
section
variable {Z : Tz} {i j : Int} {x : Nd}
@[simp] theorem up_t (Z:Tz) (i:Int) (x:Nd):(Z.up i x).t=Z.t:=rfl
@[simp] theorem up_len (Z:Tz) (i:Int) (x:Nd):(Z.up i x).N.length=Z.N.length:=by unfold Tz.up;simp
theorem Z20 (hi:i.toNat < Z.N.length) (j:Int):(Z.up i x).nd j=if j.toNat=i.toNat then x else Z.nd j:=by
 unfold Tz.nd Tz.up
 simp only [List.getD_eq_getElem?_getD]
 by_cases h:j.toNat=i.toNat
 · rw [if_pos h,h,List.getElem?_set_self hi];rfl
 · rw [if_neg h,List.getElem?_set_ne (fun e=>h e.symm)]
theorem Zav (h:Z.N.length≤i.toNat):Z.nd i=Nd.zero:=by
 unfold Tz.nd
 rw [List.getD_eq_getElem?_getD,List.getElem?_eq_none h];rfl
theorem Z2o (k:Int) (j:Int):(Z.come k).nd j=if j.toNat=Z.N.length then⟨k,0, [], []⟩else Z.nd j:=by
 unfold Tz.nd Tz.come
 simp only [List.getD_eq_getElem?_getD]
 by_cases h:j.toNat=Z.N.length
 · rw [if_pos h,h];simp
 · rw [if_neg h]
   by_cases h2:j.toNat < Z.N.length
   · rw [List.getElem?_append_left h2]
   · rw [List.getElem?_eq_none (by simp;omega),List.getElem?_eq_none (by omega)]
theorem Z2r {A B:Tz} (h1:A.N.length=B.N.length) (h2:∀ j:Int,0≤j→A.nd j=B.nd j) (h3:A.t=B.t):A=B:=by
 obtain⟨N,t⟩:=A
 obtain⟨M,u⟩:=B
 simp only at h1 h3
 subst h3
 congr 1
 apply List.ext_getElem h1
 intro n g1 g2
 have:=h2 (n:Int) (by omega)
 unfold Tz.nd at this
 simp only [Int.toNat_natCast,List.getD_eq_getElem?_getD,List.getElem?_eq_getElem g1,List.getElem?_eq_getElem g2,Option.getD_some]at this
 exact this
end
def ct:List Nd→Int→Int
 | [],_=>0
 | x::r,i=>cn x.nm i+ct r i
theorem Z32 (x:Nd) (r:List Nd) (i:Int):ct (x::r) i=cn x.nm i+ct r i:=rfl
theorem Zev (l:List Nd) (i:Int):0≤ct l i:=by
 induction l with
 | nil=>simp [ct]
 | cons x r ih=>rw [Z32];have:=Z7k x.nm i;omega
theorem Zeu (a b:List Nd) (i:Int):ct (a++b) i=ct a i+ct b i:=by
 induction a with
 | nil=>simp [ct]
 | cons e r ih=>rw [List.cons_append,Z32,Z32,ih];omega
theorem Zam:∀ (l:List Nd) (n:Nat) (x:Nd) (i:Int),n < l.length→ct (l.set n x) i=ct l i - cn (l.getD n Nd.zero).nm i+cn x.nm i
 | [],_,_,_,h=>by cases h
 | e::r,0,x,i,_=>by simp only [List.set_cons_zero,Z32,List.getD_cons_zero];omega
 | e::r,n+1,x,i,h=>by
   have:=Zam r n x i (by simpa using h)
   simp only [List.set_cons_succ,Z32,List.getD_cons_succ,this];omega
theorem Z48:∀ (l:List Nd) (n:Nat) (e:Ent),e ∈ (l.getD n Nd.zero).nm→1≤ct l e.n
 | [],n,e,h=>by simp [Nd.zero]at h
 | x::r,0,e,h=>by rw [List.getD_cons_zero]at h;rw [Z32];have:=Zet h;have:=Zev r e.n;omega
 | x::r,n+1,e,h=>by rw [List.getD_cons_succ]at h;rw [Z32];have:=Z48 r n e h;have:=Z7k x.nm e.n;omega
theorem Zdq {l:List Ent} {i:Int} (h:∀ e ∈ l,e.n≠i):cn l i=0:=by
 induction l with
 | nil=>rfl
 | cons e r ih=>rw [Z3r,if_neg (h e (by simp)),ih (fun x hx=>h x (by simp [hx]))];rfl
theorem Zdu {l:List Nd} {i:Int} (h:∀ n,∀ e ∈ (l.getD n Nd.zero).nm,e.n≠i):ct l i=0:=by
 induction l with
 | nil=>rfl
 | cons x r ih=>
   rw [Z32,Zdq (fun e he=>h 0 e (by simpa using he)),ih (fun n e he=>h (n+1) e (by simpa using he))];rfl
structure Tz.okD (Z:Tz) (m n:Nat) (x:Int→Int):Prop where
 two:2≤Z.N.length
 few:Z.N.length≤m
 z0:Z.nd 0=Nd.zero
 kd:∀ i,(Z.nd i).k=0∨(Z.nd i).k=1∨(Z.nd i).k=2
 gn:∀ i,(Z.nd i).k=0→Z.nd i=Nd.zero
 fi:∀ i,(Z.nd i).k=1→(Z.nd i).nm= []
 di:∀ i,(Z.nd i).k=2→(Z.nd i).d= []
 dl:∀ i,(Z.nd i).d.length≤48640
 db:∀ i,∀ b ∈ (Z.nd i).d,0≤b∧b≤255
 so:∀ i,Srd (Z.nd i).nm
 nl:∀ i,(Z.nd i).nm.length≤n
 nw:∀ i,∀ e ∈ (Z.nd i).nm,nm e.s=true∧2≤e.n∧(Z.nd e.n).k≠0
 rt:(Z.nd 1).k=2
 ln:∀ i,1≤i→(Z.nd i).k≠0→(Z.nd i).ln=ct Z.N i+x i
 lx:∀ i,0≤(Z.nd i).ln∧(Z.nd i).ln≤200
 op:∀ j f,j < 8→Z.t j=some f→(Z.nd f.i).k=1∧0≤f.p∧f.p≤48640∧1≤f.m∧f.m≤3
def x0 (i:Int):Int:=if i=1 then 1 else 0
abbrev Tz.ok (Z:Tz) (n:Nat):Prop:=Z.okD (n+2) n x0
section
variable {Z : Tz} {m n : Nat} {x : Int → Int} {i : Int}
theorem Tz.okD.live (h:Z.okD m n x) (hk:(Z.nd i).k≠0):1≤i∧i.toNat < Z.N.length:=by
 constructor
 · refine Decidable.byContradiction fun e=>hk ?_
   have:Z.nd i=Z.nd 0:=by unfold Tz.nd;rw [show i.toNat=(0:Int).toNat by omega]
   rw [this,h.z0];rfl
 · refine Decidable.byContradiction fun e=>hk ?_
   rw [Zav (by omega)];rfl
theorem Tz.okD.mono (h:Z.okD m n x) {m' n':Nat} (hm:m≤m') (hn:n≤n') {x':Int→Int} (hx:∀ i,1≤i→(Z.nd i).k≠0→x' i=x i):Z.okD m' n' x':=
 ⟨h.two,Nat.le_trans h.few hm,h.z0,h.kd,h.gn,h.fi,h.di,h.dl,h.db,h.so,fun i=>Nat.le_trans (h.nl i) hn,h.nw,h.rt,fun i h1 h2=>by rw [hx i h1 h2];exact h.ln i h1 h2,h.lx,h.op⟩
theorem Tz.okD.up' (h:Z.okD m n x) (hi:(Z.nd i).k≠0) (y:Nd) {n':Nat} (hn:n≤n') (x':Int→Int)
 (k1:y.k=(Z.nd i).k∨(y=Nd.zero∧2≤i∧(∀ j,∀ e ∈ (Z.nd j).nm,e.n≠i)∧∀ j f,j < 8→Z.t j=some f→f.i≠i))
 (fi:y.k=1→y.nm= []) (di:y.k=2→y.d= []) (dl:y.d.length≤48640) (db:∀ b ∈ y.d,0≤b∧b≤255) (so:Srd y.nm) (nl:y.nm.length≤n')
 (nw:∀ e ∈ y.nm,nm e.s=true∧2≤e.n∧(Z.nd e.n).k≠0) (lx:0≤y.ln∧y.ln≤200)
 (hx:∀ j,1≤j→j≠i→(Z.nd j).k≠0→x' j=x j+cn (Z.nd i).nm j - cn y.nm j)
 (hxi:y.k≠0→y.ln=(Z.nd i).ln+cn y.nm i - cn (Z.nd i).nm i+x' i - x i):(Z.up i y).okD m n' x':=by
 obtain⟨h1,h2⟩:=h.live hi
 have N:=fun j=>Z20 (x:=y) h2 j
 have eqi:∀ j:Int,j.toNat=i.toNat→j=i:=fun j e=>by omega
 have hct:∀ j,ct (Z.up i y).N j=ct Z.N j - cn (Z.nd i).nm j+cn y.nm j:=fun j=>Zam Z.N i.toNat y j h2
 have hyk:y.k=0→y=Nd.zero:=fun e=>by
  rcases k1 with k | k
  · rw [e]at k;exact absurd k.symm hi
  · exact k.1
 have alive:∀ j,(Z.nd j).k≠0→(j=i→y.k≠0)→((Z.up i y).nd j).k≠0:=fun j hj he=>by
  rw [N j]
  by_cases e:j.toNat=i.toNat
  · rw [if_pos e];exact he (eqi j e)
  · rw [if_neg e];exact hj
 refine⟨by rw [up_len];exact h.two,by rw [up_len];exact h.few,?_,fun j=>?_,fun j=>?_,fun j=>?_,fun j=>?_,fun j=>?_,fun j=>?_,fun j=>?_,fun j=>?_,fun j e he=>?_,?_,fun j hj hk=>?_,fun j=>?_,fun j f hj hf=>?_⟩
 · rw [N 0,if_neg (by omega)];exact h.z0
 · rw [N j];split
   · rcases k1 with k | k
     · rw [k];exact h.kd i
     · rw [k.1];exact .inl rfl
   · exact h.kd j
 · rw [N j];split
   · exact hyk
   · exact h.gn j
 · rw [N j];split;exact fi;exact h.fi j
 · rw [N j];split;exact di;exact h.di j
 · rw [N j];split;exact dl;exact h.dl j
 · rw [N j];split;exact db;exact h.db j
 · rw [N j];split;exact so;exact h.so j
 · rw [N j];split;exact nl;exact Nat.le_trans (h.nl j) hn
 · have hh:nm e.s=true∧2≤e.n∧(Z.nd e.n).k≠0:=by
    rw [N j]at he
    split at he
    · exact nw e he
    · exact h.nw j e he
   refine⟨hh.1,hh.2.1,alive _ hh.2.2 (fun e2 e3=>?_)⟩
   rw [N j]at he
   split at he
   · rw [hyk e3]at he;cases he
   · rcases k1 with k | k
     · rw [e3]at k;exact hi k.symm
     · exact k.2.2.1 j e he e2
 · rw [N 1];split
   · rename_i e
     have:i=1:=(eqi 1 e).symm
     rcases k1 with k | k
     · rw [k,this];exact h.rt
     · omega
   · exact h.rt
 · rw [hct j]
   rw [N j]at hk ⊢
   by_cases e:j.toNat=i.toNat
   · have e2:=eqi j e
     rw [if_pos e]at hk ⊢
     subst e2
     have:=h.ln j hj hi
     have:=hxi hk
     omega
   · rw [if_neg e]at hk ⊢
     have:=h.ln j hj hk
     have:=hx j hj (fun e2=>e (by rw [e2])) hk
     omega
 · rw [N j];split;exact lx;exact h.lx j
 · have hf':=hf
   rw [up_t]at hf
   obtain⟨g1,g2⟩:=h.op j f hj hf
   refine⟨?_,g2⟩
   rw [N f.i]
   split
   · rename_i e
     have e2:=eqi _ e
     rcases k1 with k | k
     · rw [k,← e2];exact g1
     · exact absurd e2 (k.2.2.2 j f hj hf)
   · exact g1
theorem Tz.okD.put (h:Z.okD m n x) {d:Int} (hd:(Z.nd d).k=2) (s:List UInt8) (hs:nm s=true) (i:Int) (hi:2≤i) (hk:(Z.nd i).k≠0):
 (Z.put d s i).okD m (n+1) (fun j=>x j+(if lk (Z.nd d).nm s=j then 1 else 0) - (if i=j then 1 else 0)):=by
 refine h.up' (by rw [hd];decide) _ (Nat.le_succ n) _ (.inl rfl) (fun e=>?_) (h.di d) (h.dl d) (h.db d) (Z1a (h.so d) s i) ?_ (fun e he=>?_) (h.lx d) (fun j hj _ _=>?_) (fun _=>?_)
 · simp only at e;rw [hd]at e;cases e
 · have:=Z6q (Z.nd d).nm s i;have:=h.nl d;simp only;omega
 · rcases Z2c (h.so d) he with⟨h1,_⟩ | ⟨h1,_⟩
   · exact h.nw d e h1
   · rw [h1];exact⟨hs,hi,hk⟩
 · have:=Z67 (h.so d) s i j (by omega);simp only;omega
 · have:=Z67 (h.so d) s i d (by have:=(h.live (i:=d) (by rw [hd];decide)).1;omega);simp only;omega
theorem Tz.okD.put0 (h:Z.okD m n x) {d:Int} (hd:(Z.nd d).k=2) (s:List UInt8):
 (Z.put d s 0).okD m n (fun j=>x j+(if lk (Z.nd d).nm s=j then 1 else 0)):=by
 refine h.up' (by rw [hd];decide) _ (Nat.le_refl n) _ (.inl rfl) (fun e=>?_) (h.di d) (h.dl d) (h.db d) (Z1a (h.so d) s 0) ?_ (fun e he=>?_) (h.lx d) (fun j hj _ _=>?_) (fun _=>?_)
 · simp only at e;rw [hd]at e;cases e
 · have:=Zcp (Z.nd d).nm s;have:=h.nl d;simp only;omega
 · rcases Z2c (h.so d) he with⟨h1,_⟩ | ⟨_,h1⟩
   · exact h.nw d e h1
   · exact absurd rfl h1
 · have:=Z67 (h.so d) s 0 j (by omega);rw [if_neg (show ¬(0:Int)=j by omega)]at this;simp only;omega
 · have hd1:=(h.live (i:=d) (by rw [hd];decide)).1
   have:=Z67 (h.so d) s 0 d (by omega);rw [if_neg (show ¬(0:Int)=d by omega)]at this;simp only;omega
theorem Tz.okD.lnk (h:Z.okD m n x) (hi:(Z.nd i).k≠0) (y:Int) (hy:0≤(Z.nd i).ln+y∧(Z.nd i).ln+y≤200):
 (Z.lnk i y).okD m n (fun j=>x j+(if j=i then y else 0)):=by
 refine h.up' hi _ (Nat.le_refl n) _ (.inl rfl) (h.fi i) (h.di i) (h.dl i) (h.db i) (h.so i) (h.nl i) (h.nw i) hy (fun j hj hne _=>?_) (fun _=>?_)
 · simp only;rw [if_neg hne];omega
 · simp only [if_true];omega
theorem Tz.okD.dat (h:Z.okD m n x) (hi:(Z.nd i).k=1) (d:List Int) (hl:d.length≤48640) (hb:∀ b ∈ d,0≤b∧b≤255):(Z.dat i d).okD m n x:=by
 refine h.up' (by rw [hi];decide) _ (Nat.le_refl n) _ (.inl rfl) (h.fi i) (fun e=>?_) hl hb (h.so i) (h.nl i) (h.nw i) (h.lx i) (fun j hj hne _=>?_) (fun _=>?_)
 · simp only at e;rw [hi]at e;cases e
 · simp only;omega
 · simp only;omega
theorem Z7p (t:FT) (x:Int):∀ k j f,j < k→t j=some f→f.i=x→1≤fdCt t x k
 | 0,j,f,h,_,_=>by omega
 | k+1,j,f,h,hf,hx=>by
   have h2:=Z68 t x k
   unfold fdCt
   by_cases e:j=k
   · subst e;rw [hf];simp only;rw [if_pos hx];omega
   · have:=Z7p t x k j f (by omega) hf hx
     cases t k with
     | none=>simp only;omega
     | some g=>simp only;split<;>omega
theorem Tz.okD.gone (h:Z.okD m n x) (hi:(Z.nd i).k≠0) (hx:x i=0) (h2:2≤i) (hn:(Z.nd i).nm= []):(Z.gone i).okD m n x:=by
 unfold Tz.gone
 by_cases e:(Z.nd i).ln=0∧fdCt Z.t i 8=0
 · rw [if_pos e]
   have hc:=h.ln i (by omega) hi
   refine h.up' hi _ (Nat.le_refl n) _ (.inr ⟨rfl,h2,fun j y hy e2=>?_,fun j f hj hf e2=>?_⟩) (fun e=>by cases e) (fun e=>rfl) (by simp [Nd.zero]) (fun b hb=>by cases hb) (by simp [Nd.zero,Srd]) (by simp [Nd.zero]) (fun b hb=>by cases hb) ⟨by simp [Nd.zero],by simp [Nd.zero]⟩ (fun j hj hne _=>?_) (fun e=>absurd rfl e)
   · have:=Z48 Z.N j.toNat y hy
     rw [e2]at this;omega
   · have:=Z7p Z.t i 8 j f hj hf e2
     omega
   · rw [hn];simp [Nd.zero,cn]
 · rw [if_neg e];exact h
theorem Tz.okD.fds (h:Z.okD m n x) (t:FT) (ht:∀ j f,j < 8→t j=some f→(Z.nd f.i).k=1∧0≤f.p∧f.p≤48640∧1≤f.m∧f.m≤3):(Z.fds t).okD m n x:=
 ⟨h.two,h.few,h.z0,h.kd,h.gn,h.fi,h.di,h.dl,h.db,h.so,h.nl,h.nw,h.rt,h.ln,h.lx,ht⟩
theorem Tz.okD.come (h:Z.okD m n x) (k:Int) (hk:k=1∨k=2) (hx:x Z.top=0):(Z.come k).okD (m+1) n x:=by
 have N:=fun j=>Z2o (Z:=Z) k j
 have hl:(Z.come k).N.length=Z.N.length+1:=by unfold Tz.come;simp
 have h2:=h.two
 have out:∀ j:Int,j.toNat=Z.N.length→Z.nd j=Nd.zero:=fun j e=>Zav (by omega)
 have alive:∀ j,(Z.nd j).k≠0→((Z.come k).nd j).k≠0:=fun j hj=>by
  rw [N j];split
  · simp only;omega
  · exact hj
 have hct:∀ j,ct (Z.come k).N j=ct Z.N j:=fun j=>by
  unfold Tz.come;rw [Zeu];simp [ct,cn]
 refine⟨by omega,by have:=h.few;omega,?_,fun j=>?_,fun j=>?_,fun j=>?_,fun j=>?_,fun j=>?_,fun j=>?_,fun j=>?_,fun j=>?_,fun j e he=>?_,?_,fun j hj hk2=>?_,fun j=>?_,fun j f hj hf=>?_⟩
 · rw [N 0,if_neg (by simp;omega)];exact h.z0
 · rw [N j];split
   · simp only;omega
   · exact h.kd j
 · rw [N j];split
   · intro e;simp only at e;omega
   · exact h.gn j
 · rw [N j];split;exact fun _=>rfl;exact h.fi j
 · rw [N j];split;exact fun _=>rfl;exact h.di j
 · rw [N j];split;exact Nat.zero_le _;exact h.dl j
 · rw [N j];split;exact fun b hb=>(by cases hb);exact h.db j
 · rw [N j];split;exact List.Pairwise.nil;exact h.so j
 · rw [N j];split;exact Nat.zero_le _;exact h.nl j
 · have hh:nm e.s=true∧2≤e.n∧(Z.nd e.n).k≠0:=by
    rw [N j]at he
    split at he
    · cases he
    · exact h.nw j e he
   exact⟨hh.1,hh.2.1,alive _ hh.2.2⟩
 · rw [N 1,if_neg (by omega)];exact h.rt
 · rw [hct j]
   rw [N j]at hk2 ⊢
   by_cases e:j.toNat=Z.N.length
   · rw [if_pos e]
     have :ct Z.N j=0:=Zdu (fun q y hy e2=>by
      have:=(h.nw (q:Int) y (by unfold Tz.nd;simpa using hy)).2.2
      rw [e2,out j e]at this;exact this rfl)
     have e3:j=Z.top:=by unfold Tz.top;omega
     rw [this,e3,hx];rfl
   · rw [if_neg e]at hk2 ⊢;exact h.ln j hj hk2
 · rw [N j];split;exact⟨Int.le_refl _,by simp⟩;exact h.lx j
 · obtain⟨g1,g2⟩:=h.op j f hj hf
   refine⟨?_,g2⟩
   rw [N f.i]
   split
   · rename_i e;rw [out _ e]at g1;cases g1
   · exact g1
end
theorem Z3y:Tz.new.ok 0:=by
 have N:∀ j:Int,Tz.new.nd j=if j.toNat=1 then⟨2,1, [], []⟩else Nd.zero:=fun j=>by
  unfold Tz.nd Tz.new
  match h:j.toNat with
  | 0=>rfl
  | 1=>rfl
  | n+2=>simp
 refine⟨by decide,by decide,?_,fun j=>?_,fun j=>?_,fun j=>?_,fun j=>?_,fun j=>?_,fun j=>?_,fun j=>?_,fun j=>?_,fun j e he=>?_,?_,fun j hj hk2=>?_,fun j=>?_,fun j f hj hf=>?_⟩
 · rfl
 · rw [N j];split<;>simp [Nd.zero]
 · rw [N j];split<;>simp [Nd.zero]
 · rw [N j];split<;>simp [Nd.zero]
 · rw [N j];split<;>simp [Nd.zero]
 · rw [N j];split<;>simp [Nd.zero]
 · rw [N j];split<;>simp [Nd.zero]
 · rw [N j];split<;>simp [Nd.zero,Srd]
 · rw [N j];split<;>simp [Nd.zero]
 · rw [N j]at he;split at he<;>simp [Nd.zero]at he
 · rfl
 · rw [N j]at hk2 ⊢
   split
   · have:j=1:=by omega
     subst this;rfl
   · rename_i e;rw [if_neg e]at hk2;exact absurd rfl hk2
 · rw [N j];split<;>simp [Nd.zero]
 · cases hf
end Go.Proofs.YtdnjddpfcgginaaGreat
