/-
  Texts of my own, joined: no statement is proved here.
-/
import Derived.Laws.OwnMore
import Derived.Laws.AppendOwn
import Derived.Laws.Concat
import Derived.Test.YtdnjddpfcgginaaGreatKan
set_option linter.unusedSimpArgs false
set_option linter.unusedVariables false
namespace Go.Proofs.YtdnjddpfcgginaaGreat
open Go.ChangeShapes Go.WideShapes Go.ChangeAt Go.RowKit
set_option maxRecDepth 100000
structure EsS (w:World) (s:Sv) (l:List Ent):Prop where
 len:l.length=s.n
 le:s.n≤s.c
 cap:s.c≤maxLen
 cell:0 < s.n→∃ b,s.a=some ⟨b,0,none⟩∧∀ i,i < s.n→w.cell? ⟨b,i * 2,none⟩=some (.int .i64 (l.getD i Ent.zero).n)∧w.cell? ⟨b,i * 2+1,none⟩=some (.string (str (l.getD i Ent.zero).s))
section
variable {w w' : World} {s : Sv} {l : List Ent} {E F : Nat → Prop}
theorem EsS.nil (w:World):EsS w Sv.nil []:=⟨rfl,Nat.le_refl _,by decide,fun h=>absurd h (by decide)⟩
theorem EsS.step (h:EsS w s l) (k:Stp F w w') (he:InE E s) (hE:∀ x,E x→¬F x):EsS w' s l:=
 ⟨h.len,h.le,h.cap,fun hn=>by
   obtain⟨b,e,hc⟩:=h.cell hn
   have hb:=hE b (he _ e hn)
   exact⟨b,e,fun i hi=>⟨k.cell (hc i hi).1 hb,k.cell (hc i hi).2 hb⟩⟩⟩
theorem EsS.later (h:EsS w s l) (k:Below w.heap.size w w'):EsS w' s l:=h.step (E:=fun _=>True) (Stp.of_below k (fun _=>False)) (fun _ _ _=>trivial) (fun _ _=>id)
end
def flE (l:List Ent):List Value:=l.flatMap fun e=> [.int .i64 e.n, .string (str e.s)]
theorem Z98:∀ (l:List Ent) (i:Nat),i < l.length→(flE l)[i * 2]? =some (.int .i64 (l.getD i Ent.zero).n)∧(flE l)[i * 2+1]? =some (.string (str (l.getD i Ent.zero).s))
 | [],i,h=>by simp at h
 | a::r,0,h=>by unfold flE;simp
 | a::r,i+1,h=>by
   have:=Z98 r i (by simpa using h)
   unfold flE at *
   rw [List.flatMap_cons]
   constructor
   · rw [List.getElem?_append_right (by simp;omega)]
     have e:(i+1) * 2 - [Value.int .i64 a.n, .string (str a.s)].length=i * 2:=by simp;omega
     rw [e,this.1];simp
   · rw [List.getElem?_append_right (by simp;omega)]
     have e:(i+1) * 2+1 - [Value.int .i64 a.n, .string (str a.s)].length=i * 2+1:=by simp;omega
     rw [e,this.2];simp
theorem Z97 (a b:List Ent):flE (a++b)=flE a++flE b:=by unfold flE;simp
def OwE' (w:World) (v:Value) (l:List Ent):Prop:=w.ownsRow 0 66 2 v l.length (flE l)
theorem elEn:ElT 46 66 2:=⟨by kernel_rfl,⟨.agg #[.int .i64 0, .string (str [])],24,by kernel_rfl,rfl,by omega⟩,by omega⟩
theorem OwE'.es {w:World} {v:Value} {l:List Ent} {B:Nat} (h:OwE' w v l) (hN:New B v):∃ s:Sv,v=s.v∧s.n=l.length∧EsS w s l∧InE (fun x=>B≤x∧x < w.heap.size) s:=by
 have hlt:=h.lt
 have hcs:=fun g hg=>World.ownsRow.cells h (g:=g) hg
 rcases h.2 with⟨rfl,h2⟩ | ⟨g,cap,cur,rfl,_,hg,hle,hm,hs,ht⟩
 · obtain rfl:l= []:=List.eq_nil_of_length_eq_zero h2
   exact⟨Sv.nil,rfl,rfl,EsS.nil w,InE.nil _⟩
 · refine⟨⟨some ⟨g,0,none⟩,l.length,cap⟩,rfl,rfl,⟨rfl,hle,hm,fun hn=>⟨g,rfl,fun i hi=>?_⟩⟩,fun ad e hn=>?_⟩
   · have hi':i < l.length:=hi
     have h1:=Z98 l i hi'
     have c1:=hcs g rfl _ _ h1.1
     have c2:=hcs g rfl _ _ h1.2
     rw [Addr.add_lit,Nat.zero_add]at c1 c2
     exact⟨c1,c2⟩
   · injection e with e;subst e;exact⟨hN g rfl,(hlt g rfl).2⟩
def Nr (w:World) (r c n:Nat) (F:Nat→Value):Prop:=w.ownsRow 0 76 4 (.slice (some ⟨r,0,none⟩) n c) n ((List.range (n * 4)).map F)
theorem elNd:ElT 39 76 4:=⟨by kernel_rfl,⟨.agg #[.int .i64 0, .int .i64 0, .slice none 0 0, .slice none 0 0],64,by kernel_rfl,rfl,by omega⟩,by omega⟩
section
variable {w w' : World} {r c n : Nat} {F : Nat → Value} {G : Nat → Prop}
theorem Nr.lt (h:Nr w r c n F):r < w.heap.size:=(World.ownsRow.lt h r rfl).2
theorem Nr.step (h:Nr w r c n F) (k:Stp G w w') (hr:¬G r):Nr w' r c n F:=Z4j h k (fun x hx=>by
 have e:r=x:=by simpa [Value.ownBlock]using hx
 rw [← e];exact hr)
theorem Nr.cell (h:Nr w r c n F) {i:Nat} (hi:i < n * 4):w.cell? ⟨r,i,none⟩=some (F i):=by
 have:=World.ownsRow.cells h (g:=r) rfl i (F i) (Z23 F hi)
 rw [Addr.add_lit,Nat.zero_add]at this;exact this
theorem Nr.frozen (h:Nr w r c n F) (i:Nat):w.frozen? ⟨r,i,none⟩=false:=World.ownsRow.frozenAt h i
theorem Nr.set (h:Nr w r c n F) (i:Nat) (v:Value):Nr (w.setCell ⟨r,i,none⟩ v) r c n (fun j=>if j=i then v else F j):=by
 have:=(World.ownsRow.stored h i v).1
 rw [Z7y]at this;exact this
end
structure Dw (w:World) (y fb r c:Nat) (A:Nat→Prop) (F:Nat→Value) (sd sn:Nat→Sv) (Z:Tz):Prop where
 tr:Cs w y [.slice (some ⟨r,0,none⟩) Z.N.length c, .pointer (some ⟨fb,0,none⟩)]
 row:Nr w r c Z.N.length F
 fd:Rd w fb Z.t
 n1:y≠fb
 n2:y≠r
 n3:fb≠r
 nA:∀ x,A x→x≠y∧x≠fb∧x≠r∧x < w.heap.size
 cel:∀ i,i < Z.N.length→F (i * 4)= .int .i64 (Z.N.getD i Nd.zero).k∧F (i * 4+1)= .int .i64 (Z.N.getD i Nd.zero).ln∧F (i * 4+2)=(sd i).v∧F (i * 4+3)=(sn i).v
 dt:∀ i,i < Z.N.length→BsS w (sd i) (Z.N.getD i Nd.zero).d∧InE A (sd i)
 nm:∀ i,i < Z.N.length→EsS w (sn i) (Z.N.getD i Nd.zero).nm∧InE A (sn i)
section
variable {w w' : World} {y fb r c r' c' : Nat} {A A' G : Nat → Prop} {F F' : Nat → Value} {sd sn sd' sn' : Nat → Sv} {Z : Tz}
theorem Dw.step (h:Dw w y fb r c A F sd sn Z) (k:Stp G w w') (g1:¬G y) (g2:¬G fb) (g3:¬G r) (g4:∀ x,A x→¬G x):Dw w' y fb r c A F sd sn Z:=
 ⟨h.tr.step k g1,h.row.step k g3,h.fd.step k g2,h.n1,h.n2,h.n3,fun x hx=>by obtain⟨a,b,d,e⟩:=h.nA x hx;exact⟨a,b,d,Nat.lt_of_lt_of_le e k.size⟩,h.cel,fun i hi=>⟨(h.dt i hi).1.step k (h.dt i hi).2 g4,(h.dt i hi).2⟩,fun i hi=>⟨(h.nm i hi).1.step k (h.nm i hi).2 g4,(h.nm i hi).2⟩⟩
theorem Dw.later (h:Dw w y fb r c A F sd sn Z) (k:Below w.heap.size w w'):Dw w' y fb r c A F sd sn Z:=h.step (Stp.of_below k (fun _=>False)) id id id (fun _ _=>id)
theorem Dw.more (h:Dw w y fb r c A F sd sn Z) (hA:∀ x,A x→A' x) (n:∀ x,A' x→x≠y∧x≠fb∧x≠r∧x < w.heap.size):Dw w y fb r c A' F sd sn Z:=
 ⟨h.tr,h.row,h.fd,h.n1,h.n2,h.n3,n,h.cel,fun i hi=>⟨(h.dt i hi).1,(h.dt i hi).2.mono hA⟩,fun i hi=>⟨(h.nm i hi).1,(h.nm i hi).2.mono hA⟩⟩
theorem Dw.up (h:Dw w y fb r c A F sd sn Z) {i:Nat} (hi:i < Z.N.length) (x:Nd) (s1 s2:Sv) (k:Stp (fun z=>z=r) w w') (hR:Nr w' r c Z.N.length F')
 (e0:∀ j,j < Z.N.length→j≠i→∀ t,t < 4→F' (j * 4+t)=F (j * 4+t)) (e1:F' (i * 4)= .int .i64 x.k∧F' (i * 4+1)= .int .i64 x.ln∧F' (i * 4+2)=s1.v∧F' (i * 4+3)=s2.v)
 (hd:BsS w s1 x.d∧InE A s1) (hn:EsS w s2 x.nm∧InE A s2):
 Dw w' y fb r c A F' (fun j=>if j=i then s1 else sd j) (fun j=>if j=i then s2 else sn j) ⟨Z.N.set i x,Z.t⟩:=by
 have g4:∀ z,A z→¬z=r:=fun z hz=>(h.nA z hz).2.2.1
 have N:∀ j,j < Z.N.length→(Z.N.set i x).getD j Nd.zero=if j=i then x else Z.N.getD j Nd.zero:=fun j hj=>by
  by_cases e:j=i
  · subst e;rw [if_pos rfl,List.getD_eq_getElem?_getD,List.getElem?_set_self hj];rfl
  · rw [if_neg e,List.getD_eq_getElem?_getD,List.getElem?_set_ne (fun c=>e c.symm),List.getD_eq_getElem?_getD]
 have hl:(Z.N.set i x).length=Z.N.length:=by simp
 refine⟨?_,?_,h.fd.step k h.n3,h.n1,h.n2,h.n3,fun z hz=>by obtain⟨a,b,d,e⟩:=h.nA z hz;exact⟨a,b,d,Nat.lt_of_lt_of_le e k.size⟩,fun j hj=>?_,fun j hj=>?_,fun j hj=>?_⟩
 · show Cs w' y [.slice (some ⟨r,0,none⟩) (Z.N.set i x).length c,_]
   rw [hl];exact h.tr.step k h.n2
 · show Nr w' r c (Z.N.set i x).length F'
   rw [hl];exact hR
 · have hj':j < Z.N.length:=by rw [← hl];exact hj
   show F' (j * 4)= .int .i64 ((Z.N.set i x).getD j Nd.zero).k∧F' (j * 4+1)= .int .i64 ((Z.N.set i x).getD j Nd.zero).ln∧_
   rw [N j hj']
   by_cases e:j=i
   · subst e;simp only [if_true];exact e1
   · simp only [if_neg e]
     obtain⟨q0,q1,q2,q3⟩:=h.cel j hj'
     exact⟨(e0 j hj' e 0 (by omega)).trans q0,(e0 j hj' e 1 (by omega)).trans q1,(e0 j hj' e 2 (by omega)).trans q2,(e0 j hj' e 3 (by omega)).trans q3⟩
 · have hj':j < Z.N.length:=by rw [← hl];exact hj
   show BsS w' _ ((Z.N.set i x).getD j Nd.zero).d∧_
   rw [N j hj']
   by_cases e:j=i
   · subst e;simp only [if_true];exact⟨hd.1.step k hd.2 g4,hd.2⟩
   · simp only [if_neg e];exact⟨(h.dt j hj').1.step k (h.dt j hj').2 g4,(h.dt j hj').2⟩
 · have hj':j < Z.N.length:=by rw [← hl];exact hj
   show EsS w' _ ((Z.N.set i x).getD j Nd.zero).nm∧_
   rw [N j hj']
   by_cases e:j=i
   · subst e;simp only [if_true];exact⟨hn.1.step k hn.2 g4,hn.2⟩
   · simp only [if_neg e];exact⟨(h.nm j hj').1.step k (h.nm j hj').2 g4,(h.nm j hj').2⟩
theorem Dw.set1 (h:Dw w y fb r c A F sd sn Z) {i:Nat} (hi:i < Z.N.length) (v:Int):Dw (w.setCell ⟨r,i * 4+1,none⟩ (.int .i64 v)) y fb r c A (fun j=>if j=i * 4+1 then .int .i64 v else F j) (fun j=>if j=i then sd i else sd j) (fun j=>if j=i then sn i else sn j) ⟨Z.N.set i ⟨(Z.N.getD i Nd.zero).k,v,(Z.N.getD i Nd.zero).d,(Z.N.getD i Nd.zero).nm⟩,Z.t⟩:=by
 obtain⟨q0,q1,q2,q3⟩:=h.cel i hi
 refine h.up hi _ (sd i) (sn i) ((Stp.refl (fun z=>z=r) w).setCell (p:=⟨r,i * 4+1,none⟩) (.inl rfl) _) (h.row.set _ _) (fun j hj e t ht=>by(try dsimp only);rw [if_neg (by omega)]) ⟨?_,?_,?_,?_⟩ (h.dt i hi) (h.nm i hi)
 · (try dsimp only);rw [if_neg (by omega)];exact q0
 · simp
 · (try dsimp only);rw [if_neg (by omega)];exact q2
 · (try dsimp only);rw [if_neg (by omega)];exact q3
theorem Dw.set2 (h:Dw w y fb r c A F sd sn Z) {i:Nat} (hi:i < Z.N.length) {s:Sv} {d:List Int} (hs:BsS w s d∧InE A s):Dw (w.setCell ⟨r,i * 4+2,none⟩ s.v) y fb r c A (fun j=>if j=i * 4+2 then s.v else F j) (fun j=>if j=i then s else sd j) (fun j=>if j=i then sn i else sn j) ⟨Z.N.set i ⟨(Z.N.getD i Nd.zero).k,(Z.N.getD i Nd.zero).ln,d,(Z.N.getD i Nd.zero).nm⟩,Z.t⟩:=by
 obtain⟨q0,q1,q2,q3⟩:=h.cel i hi
 refine h.up hi _ s (sn i) ((Stp.refl (fun z=>z=r) w).setCell (p:=⟨r,i * 4+2,none⟩) (.inl rfl) _) (h.row.set _ _) (fun j hj e t ht=>by(try dsimp only);rw [if_neg (by omega)]) ⟨?_,?_,?_,?_⟩ hs (h.nm i hi)
 · (try dsimp only);rw [if_neg (by omega)];exact q0
 · (try dsimp only);rw [if_neg (by omega)];exact q1
 · simp
 · (try dsimp only);rw [if_neg (by omega)];exact q3
theorem Dw.set3 (h:Dw w y fb r c A F sd sn Z) {i:Nat} (hi:i < Z.N.length) {s:Sv} {l:List Ent} (hs:EsS w s l∧InE A s):Dw (w.setCell ⟨r,i * 4+3,none⟩ s.v) y fb r c A (fun j=>if j=i * 4+3 then s.v else F j) (fun j=>if j=i then sd i else sd j) (fun j=>if j=i then s else sn j) ⟨Z.N.set i ⟨(Z.N.getD i Nd.zero).k,(Z.N.getD i Nd.zero).ln,(Z.N.getD i Nd.zero).d,l⟩,Z.t⟩:=by
 obtain⟨q0,q1,q2,q3⟩:=h.cel i hi
 refine h.up hi _ (sd i) s ((Stp.refl (fun z=>z=r) w).setCell (p:=⟨r,i * 4+3,none⟩) (.inl rfl) _) (h.row.set _ _) (fun j hj e t ht=>by(try dsimp only);rw [if_neg (by omega)]) ⟨?_,?_,?_,?_⟩ (h.dt i hi) hs
 · (try dsimp only);rw [if_neg (by omega)];exact q0
 · (try dsimp only);rw [if_neg (by omega)];exact q1
 · (try dsimp only);rw [if_neg (by omega)];exact q2
 · simp
def ndZ:List Value:= [.int .i64 0, .int .i64 0, .slice none 0 0, .slice none 0 0]
theorem Dw.zero (h:Dw w y fb r c A F sd sn Z) {i:Nat} (hi:i < Z.N.length):∃ F',Dw (w.setCells r (i * 4) ndZ) y fb r c A F' (fun j=>if j=i then Sv.nil else sd j) (fun j=>if j=i then Sv.nil else sn j) ⟨Z.N.set i Nd.zero,Z.t⟩:=by
 have R:=(((h.row.set (i * 4) (.int .i64 0)).set (i * 4+1) (.int .i64 0)).set (i * 4+2) (.slice none 0 0)).set (i * 4+3) (.slice none 0 0)
 refine⟨_,h.up hi Nd.zero Sv.nil Sv.nil (Stp.of_setCells w r (i * 4) ndZ (.inl rfl)) R (fun j hj e t ht=>?_) ⟨?_,?_,?_,?_⟩ ⟨Z0y w,InE.nil A⟩ ⟨EsS.nil w,InE.nil A⟩⟩
 · try dsimp only
   rw [if_neg (by omega),if_neg (by omega),if_neg (by omega),if_neg (by omega)]
 · (try dsimp only);rw [if_neg (by omega),if_neg (by omega),if_neg (by omega),if_pos rfl];rfl
 · (try dsimp only);rw [if_neg (by omega),if_neg (by omega),if_pos rfl];rfl
 · (try dsimp only);rw [if_neg (by omega),if_pos rfl];rfl
 · (try dsimp only);rw [if_pos rfl];rfl
end
def Dx (w:World) (U:Nat→Prop) (y:Nat) (Z:Tz):Prop:=∃ fb r c A F sd sn,Dw w y fb r c A F sd sn Z∧∀ x,U x↔x=y∨x=fb∨x=r∨A x
def DxG (U:Nat→Prop) (y:Nat) (Z:Tz) (w w':World):Prop:=∃ U',Dx w' U' y Z∧Stp U w w'∧Grew U U' w w'
section
variable {w w' w'' : World} {y : Nat} {U U' F : Nat → Prop} {Z Z' : Tz}
theorem Dx.step (h:Dx w U y Z) (k:Stp F w w') (hF:∀ x,U x→¬F x):Dx w' U y Z:=by
 obtain⟨fb,r,c,A,G,sd,sn,h1,h2⟩:=h
 exact⟨fb,r,c,A,G,sd,sn,h1.step k (hF _ ((h2 _).2 (.inl rfl))) (hF _ ((h2 _).2 (.inr (.inl rfl)))) (hF _ ((h2 _).2 (.inr (.inr (.inl rfl))))) (fun x hx=>hF x ((h2 x).2 (.inr (.inr (.inr hx))))),h2⟩
theorem Dx.later (h:Dx w U y Z) (k:Below w.heap.size w w'):Dx w' U y Z:=h.step (Stp.of_below k (fun _=>False)) (fun _ _=>id)
theorem Dx.low (h:Dx w U y Z):∀ x,U x→x < w.heap.size:=by
 obtain⟨fb,r,c,A,G,sd,sn,h1,h2⟩:=h
 intro x hx
 rcases (h2 x).1 hx with e | e | e | e
 · rw [e];exact h1.tr.lt
 · rw [e];exact h1.fd.lt
 · rw [e];exact h1.row.lt
 · exact(h1.nA x e).2.2.2
theorem DxG.refl (h:Dx w U y Z) (hb:Below w.heap.size w w'):DxG U y Z w w':=⟨U,h.later hb,Stp.of_below hb U,Grew.refl _ _ _⟩
theorem DxG.stp (h:DxG U y Z w w'):Stp U w w':=by obtain⟨U',_,a,_⟩:=h;exact a
theorem DxG.join {w1 w2:World} (s:Stp U w w1) (e:Grew U U' w w1) (h:DxG U' y Z w1 w2):DxG U y Z w w2:=by
 obtain⟨U'',t2,s2,e2⟩:=h
 refine⟨U'',t2,s.next s2 (fun x hx=>?_),e.trans e2 s.size s2.size⟩
 rcases e x hx with c | c
 · exact .inl c
 · exact .inr c.1
theorem DxG.ahead (h:DxG U y Z w w') (hb:Below w'.heap.size w' w''):DxG U y Z w w'':=by
 obtain⟨U',a1,a2,a3⟩:=h
 refine⟨U',a1.later hb,a2.trans (Stp.of_below hb U),fun x hx=>?_⟩
 rcases a3 x hx with e | e
 · exact .inl e
 · exact .inr ⟨e.1,Nat.lt_of_lt_of_le e.2 hb.size⟩
end
theorem Zej {x y:List UInt8} (h:str x=str y):x=y:=by
 have:=congrArg (fun s:ByteArray=>s.data.toList) h
 simpa [Z53]using this
theorem Z9a:∀ {L M:List (List UInt8)},L.map str=M.map str→L=M
 | [], [],_=>rfl
 | x::L,y::M,h=>by
   simp only [List.map_cons,List.cons.injEq]at h
   rw [Zej h.1,Z9a h.2]
theorem Z7u (L:List (List UInt8)) (j:Nat) (hj:j < L.length):(L.map str).getD j ByteArray.empty=str (L.getD j []):=by
 rw [List.getD_eq_getElem?_getD,List.getElem?_map,List.getElem?_eq_getElem hj,List.getD_eq_getElem?_getD,List.getElem?_eq_getElem hj];rfl
theorem Zdw {w:World} {a1 a2:Option Addr} {n1 n2 c1 c2:Nat} {L M:List (List UInt8)} (h1:Sts w a1 n1 c1 L) (h2:Sts w a2 n2 c2 M) (hl:L.length≤100000) (hm:M.length≤100000):
 Calls Tryz.prog 160 #[.slice a1 n1 c1, .slice a2 n2 c2] w fun e w'=>e= .returned (.bool (decide (L=M)))∧Below w.heap.size w w':=by
 have e1:=h1.len
 have e2:=h2.len
 by_cases h0:n1=0
 · subst h0
   obtain rfl:L= []:=List.eq_nil_of_length_eq_zero e1
   refine(Any.slices_Equal_string_empty YtdnjddpfcgginaaGreat.lays193 a1 a2 c1 n2 c2 w (by omega)).mono ?_
   rintro e w' ⟨rfl,rfl⟩
   refine⟨?_,Below.refl _ _⟩
   refine Z60 (decide_eq_decide.2 ⟨fun h=>?_,fun h=>?_⟩)
   · exact(List.eq_nil_of_length_eq_zero (by omega)).symm
   · rw [← h]at e2;simpa using e2.symm
 by_cases hne:n1=n2
 · subst hne
   obtain⟨b1,o1,rfl,g1⟩:=h1.cell (by omega)
   obtain⟨b2,o2,rfl,g2⟩:=h2.cell (by omega)
   refine(Any.slices_Equal_string YtdnjddpfcgginaaGreat.lays193 b1 o1 n1 c1 b2 o2 n1 c2 (L.map str) (M.map str) w (by simp;omega) (by simp;omega) (by omega) (by omega) (fun j hj=>?_) (fun j hj=>?_)).mono ?_
   · rw [List.length_map]at hj
     rw [g1 j (by omega),Z7u L j hj]
   · rw [List.length_map]at hj
     rw [g2 j (by omega),Z7u M j hj]
   · rintro e w' ⟨rfl,q,rfl⟩
     refine⟨Z60 (decide_eq_decide.2 ⟨fun h=>?_,fun h=>?_⟩),Z8j w q⟩
     · rw [List.take_of_length_le (by simp;omega),List.take_of_length_le (by simp;omega)]at h
       exact Z9a h
     · rw [h]
 · refine(Any.slices_Equal_string_lens YtdnjddpfcgginaaGreat.lays193 a1 a2 n1 c1 n2 c2 w hne).mono ?_
   rintro e w' ⟨rfl,rfl⟩
   refine⟨Z60 (decide_eq_false (fun h=>hne ?_)).symm,Below.refl _ _⟩
   rw [← e1,← e2,h]
set_option maxRecDepth 100000 in
set_option maxHeartbeats 2000000 in
theorem Z4t {w:World} {a1 a2:Option Addr} {n1 n2 c1 c2:Nat} {L M:List (List UInt8)} (h1:Sts w a1 n1 c1 L) (h2:Sts w a2 n2 c2 M) (hl:L.length≤10000) (hm:M.length≤10000):
 Calls Tryz.prog 147 #[.slice a1 n1 c1, .slice a2 n2 c2] w fun e w'=>e= .returned (.bool (insB L M))∧Below w.heap.size w w':=by
 have e1:=h1.len
 have e2:=h2.len
 by_cases g:n1 < n2
 · have HE:=Zdw h1 (h2.take n1 (by omega)) (by omega) (by simp;omega)
   have hB:insB L M=decide (L=M.take n1):=by
    unfold insB
    refine decide_eq_decide.2 ⟨fun h=>?_,fun h=>?_⟩
    · have h':=h.2;rw [e1]at h';exact h'.symm
    · exact⟨by omega,by rw [e1];exact h.symm⟩
   rw [hB]
   generalize decide (L=M.take n1)=B at *
   have c1:=h2.le
   have g1:(n1:Int) < (n2:Int):=by omega
   have g2:(0:Int)≤(n1:Int):=by omega
   have g3:(n1:Int)≤(n2:Int):=by omega
   have g4:(n1:Int)≤(c2:Int):=by omega
   clear hB e1 e2 h1 h2
   cases B<;>(
    go_enter Tryz.func147,Tryz.ntmps147
    go_wp2_with (first
     | (go_at_call 160;refine HE.mono ?_;rintro e w1 ⟨rfl,b1⟩))
    go_returns
    exact⟨rfl,b1⟩)
 · have hB:insB L M=false:=decide_eq_false (fun h=>by have:=h.1;omega)
   rw [hB]
   have g1:¬(n1:Int) < (n2:Int):=by omega
   clear hB
   go_enter Tryz.func147,Tryz.ntmps147
   go_wp2
   go_returns
   exact⟨rfl,Below.refl _ _⟩
set_option maxRecDepth 100000 in
set_option maxHeartbeats 2000000 in
theorem Z8t {w:World} {a1 a2:Option Addr} {n1 n2 c1 c2:Nat} {L M:List (List UInt8)} (h1:Sts w a1 n1 c1 L) (h2:Sts w a2 n2 c2 M) (hl:L.length≤10000) (hm:M.length≤10000):
 Calls Tryz.prog 77 #[.slice a1 n1 c1, .slice a2 n2 c2] w fun e w'=>e= .returned (.bool (insB L M))∧Below w.heap.size w w':=by
 have e1:=h1.len
 have e2:=h2.len
 obtain⟨B,hB⟩:∃ B,Hid (insB L M=B):=⟨_,rfl⟩
 rw [hB.out]
 by_cases g:n1 < n2
 · have ca:Hid (0 < n1→∃ b o,a1=some ⟨b,o,none⟩∧∀ i,i < n1→w.cell? ⟨b,o+i,none⟩=some (.string (str (L.getD i [])))):=h1.cell
   have cb:Hid (0 < n2→∃ b o,a2=some ⟨b,o,none⟩∧∀ i,i < n2→w.cell? ⟨b,o+i,none⟩=some (.string (str (M.getD i [])))):=h2.cell
   have hne:Hid (∀ k,k < n1→L.getD k []≠M.getD k []→B=false):=fun k hk hn=>by
    rw [← hB.out]
    refine decide_eq_false (fun h=>hn ?_)
    have h':=h.2
    rw [← h',List.getD_eq_getElem?_getD,List.getElem?_take,if_pos (by omega),List.getD_eq_getElem?_getD]
   have hall:Hid ((∀ k,k < n1→L.getD k []=M.getD k [])→B=true):=fun h=>by
    rw [← hB.out]
    refine decide_eq_true ⟨by omega,?_⟩
    refine List.ext_getElem? (fun k=>?_)
    by_cases hk:k < n1
    · have:=h k hk
      rw [List.getElem?_take,if_pos (by omega)]
      rw [List.getD_eq_getElem?_getD,List.getD_eq_getElem?_getD,List.getElem?_eq_getElem (by omega),List.getElem?_eq_getElem (by omega)]at this
      rw [List.getElem?_eq_getElem (by omega),List.getElem?_eq_getElem (by omega)]
      simpa using this.symm
    · rw [List.getElem?_eq_none (by simp;omega),List.getElem?_eq_none (by omega)]
   have hn1:n1≤10000:=by omega
   have hn2:n2≤10000:=by omega
   have g1:(n1:Int) < (n2:Int):=by omega
   clear e1 e2 h1 h2 hl hm
   go_enter Tryz.func77,Tryz.ntmps77
   go_wp2
   go_loopw [5] (fun iv wr=>∃ k:Nat,iv= .int .i64 (k:Int)∧k≤n1∧Below w.heap.size w wr∧∀ j,j < k→L.getD j []=M.getD j []) (fun iv _=>n1 - (intOf iv).toNat)
   case atStart=>exact⟨0,rfl,Nat.zero_le _,Below.refl _ _,fun j hj=>absurd hj (by omega)⟩
   case round=>
    obtain⟨k,rfl,hk,hBl,hsame⟩:=hrel
    have hS:Hid (∀ j,j < k→L.getD j []=M.getD j []):=hsame
    clear hsame
    by_cases hlt:k < n1
    · obtain⟨b1,o1,rfl,q1⟩:=ca.out (by omega)
      obtain⟨b2,o2,rfl,q2⟩:=cb.out (by omega)
      have ck1:wr.cell? ⟨b1,o1+k,none⟩=some (.string (str (L.getD k []))):=(Stp.of_below hBl (fun _=>False)).cell (q1 k hlt) id
      have ck2:wr.cell? ⟨b2,o2+k,none⟩=some (.string (str (M.getD k []))):=(Stp.of_below hBl (fun _=>False)).cell (q2 k (by omega)) id
      have hn0:Hid (L.getD k []≠M.getD k []→B=false):=hne.out k hlt
      have hs1:Hid (L.getD k []=M.getD k []→∀ j,j < k+1→L.getD j []=M.getD j []):=fun h j hj=>by
       by_cases e:j < k
       · exact hS.out j e
       · obtain rfl:j=k:=by omega
         exact h
      clear q1 q2
      generalize L.getD k []=X at *
      generalize M.getD k []=Y at *
      have a9:(k:Int) < (n1:Int):=by omega
      have a8:(0:Int)≤(k:Int):=by omega
      have a7:(k:Int) < (n2:Int):=by omega
      have tX:=Z17 X
      have tY:=Z17 Y
      by_cases hx:X=Y
      · subst hx
        have hs2:Hid (∀ j,j < k+1→L.getD j []=M.getD j []):=hs1.out rfl
        clear hs1 hn0
        go_wp2
        go_region
        go_wp2
        go_roundw
        case rel=>exact⟨k+1,by go_num,by omega,hBl.drew,hs2.out⟩
        case measure=>simp [intOf];omega
      · have hf:Hid (B=false):=hn0.out hx
        have hxb:(X==Y)=false:=by simpa using hx
        clear hx hn0 hs1
        go_wp2
        go_region
        go_wp2
        go_returns
        exact⟨by rw [hf.out];rfl,hBl.drew⟩
    · obtain rfl:k=n1:=by omega
      have hf:Hid (B=true):=hall.out hS.out
      go_wp2
      go_returns
      exact⟨by rw [hf.out];rfl,hBl⟩
 · have hf:Hid (B=false):=by show _=_;rw [← hB.out];exact decide_eq_false (fun h=>by have:=h.1;omega)
   have g1:¬(n1:Int) < (n2:Int):=by omega
   have g2:(n2:Int)≤(n1:Int):=by omega
   go_enter Tryz.func77,Tryz.ntmps77
   go_wp2
   go_returns
   exact⟨by rw [hf.out];rfl,Below.refl _ _⟩
set_option maxRecDepth 100000
section
variable {w w' : World} {y fb r c : Nat} {A : Nat → Prop} {F : Nat → Value} {sd sn : Nat → Sv} {Z : Tz}
theorem Z5d (Z:Tz) (k:Nat):Z.N.getD k Nd.zero=Z.nd (k:Int):=rfl
theorem Dw.c0 (h:Dw w y fb r c A F sd sn Z):w.cell? ⟨y,0,none⟩=some (.slice (some ⟨r,0,none⟩) Z.N.length c):=h.tr.cell 0 _ rfl
theorem Dw.c1 (h:Dw w y fb r c A F sd sn Z):w.cell? ⟨y,1,none⟩=some (.pointer (some ⟨fb,0,none⟩)):=h.tr.cell 1 _ rfl
theorem Dw.nk (h:Dw w y fb r c A F sd sn Z) {k:Nat} (hk:k < Z.N.length):w.cell? ⟨r,k * 4,none⟩=some (.int .i64 (Z.nd (k:Int)).k):=by rw [h.row.cell (by omega),(h.cel k hk).1];rfl
theorem Dw.nl (h:Dw w y fb r c A F sd sn Z) {k:Nat} (hk:k < Z.N.length):w.cell? ⟨r,k * 4+1,none⟩=some (.int .i64 (Z.nd (k:Int)).ln):=by rw [h.row.cell (by omega),(h.cel k hk).2.1];rfl
theorem Dw.ndt (h:Dw w y fb r c A F sd sn Z) {k:Nat} (hk:k < Z.N.length):w.cell? ⟨r,k * 4+2,none⟩=some (sd k).v:=by rw [h.row.cell (by omega),(h.cel k hk).2.2.1]
theorem Dw.nnm (h:Dw w y fb r c A F sd sn Z) {k:Nat} (hk:k < Z.N.length):w.cell? ⟨r,k * 4+3,none⟩=some (sn k).v:=by rw [h.row.cell (by omega),(h.cel k hk).2.2.2]
end
theorem Ze0 {l:List Ent} {i:Nat} (hi:i < l.length) (s:List UInt8):lk (l.drop i) s=if (l.getD i Ent.zero).s=s then(l.getD i Ent.zero).n else lk (l.drop (i+1)) s:=by
 rw [List.drop_eq_getElem_cons hi,List.getD_eq_getElem?_getD,List.getElem?_eq_getElem hi];rfl
set_option maxHeartbeats 2000000 in
theorem Za3 {w:World} {y r c N k:Nat} {s:Sv} {l:List Ent} {t:List UInt8} (c0:w.cell? ⟨y,0,none⟩=some (.slice (some ⟨r,0,none⟩) N c)) (hk:k < N) (c3:w.cell? ⟨r,k * 4+3,none⟩=some s.v) (hS:EsS w s l):
 Calls Tryz.prog 67 #[.pointer (some ⟨y,0,none⟩), .int .i64 (k:Int), .string (str t)] w fun e w'=>e= .returned (.int .i64 (lk l t))∧w=w':=by
 obtain⟨a,n,cc⟩:=s
 have hl:=hS.len
 simp only at hl
 subst hl
 have hc:Hid (0 < l.length→∃ b,a=some ⟨b,0,none⟩∧∀ i,i < l.length→w.cell? ⟨b,i * 2,none⟩=some (.int .i64 (l.getD i Ent.zero).n)∧w.cell? ⟨b,i * 2+1,none⟩=some (.string (str (l.getD i Ent.zero).s))):=hS.cell
 have a1:(0:Int)≤(k:Int):=by omega
 have a2:(k:Int) < (N:Int):=by omega
 obtain⟨R,hR⟩:∃ R,Hid (lk l t=R):=⟨_,rfl⟩
 rw [hR.out]
 have hcap:l.length≤maxLen:=Nat.le_trans hS.le hS.cap
 unfold maxLen at hcap
 have c3':w.cell? ⟨r,k * 4+3,none⟩=some (.slice a l.length cc):=c3
 clear hS c3
 go_enter Tryz.func67,Tryz.ntmps67
 go_wp2
 go_loopw [8] (fun iv wr=>∃ i:Nat,iv= .int .i64 (i:Int)∧i≤l.length∧w=wr∧Hid (lk (l.drop i) t=R)) (fun iv _=>l.length - (intOf iv).toNat)
 case atStart=>exact⟨0,rfl,Nat.zero_le _,rfl,by show _=_;rw [List.drop_zero];exact hR.out⟩
 case round=>
  obtain⟨i,rfl,hi,rfl,hQ⟩:=hrel
  by_cases hlt:i < l.length
  · obtain⟨b,rfl,hcs⟩:=hc.out (by omega)
    obtain⟨k1,k2⟩:=hcs i hlt
    have hQ2:=hQ.out
    rw [Ze0 hlt]at hQ2
    have hQ3:Hid _:=hQ2
    clear hQ2 hQ hcs
    generalize l.getD i Ent.zero=x at *
    have a9:(i:Int) < (l.length:Int):=by omega
    have a8:(0:Int)≤(i:Int):=by omega
    have tX:=Z17 x.s
    have tY:=Z17 t
    by_cases hx:x.s=t
    · have hQ4:Hid (x.n=R):=by have:=hQ3.out;rw [if_pos hx]at this;exact this
      rw [hx]at k2
      clear hQ3 tX hx
      go_wp2
      go_returns
      exact⟨(by rw [hQ4.out];try rfl),rfl⟩
    · have hQ4:Hid (lk (l.drop (i+1)) t=R):=by have:=hQ3.out;rw [if_neg hx]at this;exact this
      have hxb:(x.s==t)=false:=by simpa using hx
      clear hQ3 hx
      go_wp2
      go_roundw
      case rel=>exact⟨i+1,by go_num,by omega,trivial,hQ4⟩
      case measure=>simp [intOf];omega
  · obtain rfl:i=l.length:=by omega
    have hQ4:Hid (R=0):=by have:=hQ.out;rw [List.drop_length]at this;exact this.symm
    clear hQ hlt
    go_wp2
    go_returns
    exact⟨(by rw [hQ4.out];try rfl),rfl⟩
theorem Z71 {w:World} {y fb r c:Nat} {A:Nat→Prop} {F:Nat→Value} {sd sn:Nat→Sv} {Z:Tz} (h:Dw w y fb r c A F sd sn Z) {d:Int} (hd:0≤d∧d.toNat < Z.N.length) (t:List UInt8):
 Calls Tryz.prog 67 #[.pointer (some ⟨y,0,none⟩), .int .i64 d, .string (str t)] w fun e w'=>e= .returned (.int .i64 (lk (Z.nd d).nm t))∧w=w':=by
 obtain⟨k,rfl⟩:∃ k:Nat,d=(k:Int):=⟨d.toNat,by omega⟩
 have hk:k < Z.N.length:=by simpa using hd.2
 exact Za3 h.c0 hk (h.nnm hk) (h.nm k hk).1
set_option maxHeartbeats 2000000 in
theorem Z9l {w:World} {y fb r c:Nat} {A:Nat→Prop} {F:Nat→Value} {sd sn:Nat→Sv} {Z:Tz} (h:Dw w y fb r c A F sd sn Z) {m n:Nat} {x:Int→Int} (hz:Z.okD m n x) {a:Option Addr} {N cc:Nat} {L:List (List UInt8)} (hS:Sts w a N cc L):
 Calls Tryz.prog 50 #[.pointer (some ⟨y,0,none⟩), .slice a N cc] w fun e w'=>e= .returned (.tuple #[.int .i64 (Z.wk L 1).1, .int .i64 (Z.wk L 1).2])∧w=w':=by
 have hl:=hS.len
 subst hl
 have hc:Hid (0 < L.length→∃ b o,a=some ⟨b,o,none⟩∧∀ i,i < L.length→w.cell? ⟨b,o+i,none⟩=some (.string (str (L.getD i [])))):=hS.cell
 have hcap:L.length≤maxLen:=Nat.le_trans hS.le hS.cap
 unfold maxLen at hcap
 clear hS
 obtain⟨R,hR⟩:∃ R,Hid (Z.wk L 1=R):=⟨_,rfl⟩
 rw [hR.out]
 have hrt:=hz.rt
 go_enter Tryz.func50,Tryz.ntmps50
 go_wp2
 go_loopw [6,7] (fun dv iv wr=>∃ (d:Int) (i:Nat),dv= .int .i64 d∧iv= .int .i64 (i:Int)∧i≤L.length∧w=wr∧(Z.nd d).k≠0∧Hid (Z.wk (L.drop i) d=R)) (fun _ iv _=>L.length - (intOf iv).toNat)
 case atStart=>exact⟨1,0,rfl,rfl,Nat.zero_le _,rfl,by rw [hrt];decide,by show _=_;rw [List.drop_zero];exact hR.out⟩
 case round=>
  obtain⟨d,i,rfl,rfl,hi,rfl,hdk,hQ⟩:=hrel
  have hdl:=hz.live hdk
  by_cases hlt:i < L.length
  · obtain⟨b,o,rfl,hcs⟩:=hc.out (by omega)
    have k2:=hcs i hlt
    have e1:L.drop i=L.getD i []::L.drop (i+1):=by
     rw [List.drop_eq_getElem_cons hlt,List.getD_eq_getElem?_getD,List.getElem?_eq_getElem hlt];rfl
    have hQ2:=hQ.out
    rw [e1]at hQ2
    unfold Tz.wk at hQ2
    clear hQ hcs e1
    generalize L.getD i []=t at *
    have a9:(i:Int) < (L.length:Int):=by omega
    have a8:(0:Int)≤(i:Int):=by omega
    obtain⟨k,rfl⟩:∃ k:Nat,d=(k:Int):=⟨d.toNat,by omega⟩
    have hk:k < Z.N.length:=by simpa using hdl.2
    have a7:(k:Int) < (Z.N.length:Int):=by omega
    have a6:(0:Int)≤(k:Int):=by omega
    have c0:=h.c0
    have cn:=h.nk hk
    have hf:=Z71 h (d:=(k:Int)) ⟨a6,hdl.2⟩ t
    by_cases h2:(Z.nd (k:Int)).k=2
    · rw [if_pos h2]at hQ2
      rw [h2]at cn
      by_cases h3:lk (Z.nd (k:Int)).nm t=0
      · rw [if_pos h3]at hQ2
        rw [h3]at hf
        have hQ3:Hid (R=(0,40)):=hQ2.symm
        clear hQ2 h3 h2 hdk
        go_wp2_with (go_at_call 67;refine hf.mono ?_;rintro e u ⟨rfl,rfl⟩)
        go_returns
        exact⟨(by rw [hQ3.out];try rfl),rfl⟩
      · rw [if_neg h3]at hQ2
        have hlv:=(Z2n hz (k:Int) h3).2
        have hQ3:Hid _:=hQ2
        have q3:(lk (Z.nd (k:Int)).nm t==0)=false:=by simpa using h3
        clear hQ2 h3 h2 hdk
        generalize lk (Z.nd (k:Int)).nm t=j at *
        go_wp2_with (go_at_call 67;refine hf.mono ?_;rintro e u ⟨rfl,rfl⟩)
        go_roundw
        case rel=>exact⟨j,i+1,rfl,by go_num,by omega,trivial,hlv,hQ3⟩
        case measure=>simp [intOf];omega
    · rw [if_neg h2]at hQ2
      have hQ3:Hid (R=(0,42)):=hQ2.symm
      have q2:((Z.nd (k:Int)).k != 2)=true:=by simpa using h2
      clear hQ2 h2 hdk hf
      generalize (Z.nd (k:Int)).k=K at *
      go_wp2
      go_returns
      exact⟨(by rw [hQ3.out];try rfl),rfl⟩
  · obtain rfl:i=L.length:=by omega
    have hQ3:Hid (R=(d,0)):=by have:=hQ.out;rw [List.drop_length]at this;exact this.symm
    clear hQ hlt hdk
    go_wp2
    go_returns
    exact⟨(by rw [hQ3.out];try rfl),rfl⟩
set_option maxRecDepth 100000
set_option maxHeartbeats 2000000 in
theorem Zbg {w:World} {U:Nat→Prop} {y:Nat} {Z:Tz} (h:Dx w U y Z) {m n:Nat} {x:Int→Int} (hz:Z.okD m n x) (p:List UInt8) (hp:p.length≤5000):
 Calls Tryz.prog 21 #[.pointer (some ⟨y,0,none⟩), .string (str p)] w fun e w'=>e= .returned (.tuple #[.int .i64 (Z.wa p).1, .int .i64 (Z.wa p).2])∧Below w.heap.size w w':=by
 obtain⟨fb,r,c,A,F,sd,sn,H,hU⟩:=h
 have hC:=Z51 p w hp
 have hK:=fun w' (b:Below w.heap.size w w') a N c (hS:Sts w' a N c (spN p))=>Z9l (H.later b) hz hS
 unfold Tz.wa
 by_cases h1:spE p=0
 · rw [if_pos h1]
   go_enter Tryz.func21,Tryz.ntmps21
   go_wp2_with (first
    | (go_at_call 49;refine hC.mono ?_;rintro e w1 ⟨⟨a,N,cc,rfl,hS⟩,b1⟩;clear hC;rw [h1])
    | (go_at_call 50;refine(hK _ b1 _ _ _ hS).mono ?_;rintro e w2 ⟨rfl,rfl⟩))
   go_returns
   exact⟨rfl,b1⟩
 · rw [if_neg h1]
   have q1:(spE p != 0)=true:=by simpa using h1
   clear hK
   go_enter Tryz.func21,Tryz.ntmps21
   go_wp2_with (go_at_call 49;refine hC.mono ?_;rintro e w1 ⟨⟨a,N,cc,rfl,hS⟩,b1⟩;clear hC)
   go_returns
   exact⟨rfl,b1⟩
def ParR (Z:Tz) (p:List UInt8) (E:Int) (e:Ending):Prop:=∃ d s,e= .returned (.tuple #[.int .i64 d, .string s, .int .i64 E])∧(E=0→d=Z.paD p∧s=str (lsS p))
set_option maxHeartbeats 2000000 in
theorem Z5r {w:World} {U:Nat→Prop} {y:Nat} {Z:Tz} (h:Dx w U y Z) {m n:Nat} {x:Int→Int} (hz:Z.okD m n x) (p:List UInt8) (hp:p.length≤5000) (root:Int) (hr:root≠0):
 Calls Tryz.prog 66 #[.pointer (some ⟨y,0,none⟩), .string (str p), .int .i64 root] w fun e w'=>ParR Z p (Z.paE p root) e∧Below w.heap.size w w':=by
 obtain⟨fb,r,c,A,F,sd,sn,H,hU⟩:=h
 have hC:=Zb7 p w hp
 have hK:=fun w' (b:Below w.heap.size w w') a N c (hS:Sts w' a N c (lsN p))=>Z9l (H.later b) hz hS
 unfold Tz.paE
 by_cases h1:lsE p=2
 · rw [if_pos h1]
   clear hK
   go_enter Tryz.func66,Tryz.ntmps66
   go_wp2_with (go_at_call 109;refine hC.mono ?_;rintro e w1 ⟨⟨a,N,cc,rfl,hS⟩,b1⟩;clear hC;rw [h1])
   go_returns
   exact⟨⟨_,_,rfl,fun e=>absurd e hr⟩,b1⟩
 · rw [if_neg h1]
   by_cases h2:lsE p=0
   · rw [if_pos h2]
     have hlv:=fun e=>Z5q hz (lsN p) 1 (by rw [hz.rt];decide) e
     have hPD:Hid ((Z.wk (lsN p) 1).1=Z.paD p):=rfl
     by_cases h3:(Z.wk (lsN p) 1).2=0
     · rw [if_pos h3]
       have hk:=hlv h3
       have hkl:=hz.live hk
       rw [h3]at hK
       rw [← hPD.out]
       obtain⟨d,hd⟩:∃ d,Hid ((Z.wk (lsN p) 1).1=d):=⟨_,rfl⟩
       rw [hd.out]at hk hkl hK hPD ⊢
       clear hlv h3 hd h1
       obtain⟨k,rfl⟩:∃ k:Nat,d=(k:Int):=⟨d.toNat,by omega⟩
       have hkN:k < Z.N.length:=by simpa using hkl.2
       have a7:(k:Int) < (Z.N.length:Int):=by omega
       have a6:(0:Int)≤(k:Int):=by omega
       by_cases h4:(Z.nd (k:Int)).k=2
       · rw [if_pos h4]
         go_enter Tryz.func66,Tryz.ntmps66
         go_wp2_with (first
          | (go_at_call 109;refine hC.mono ?_;rintro e w1 ⟨⟨a,N,cc,rfl,hS⟩,b1⟩;clear hC;rw [h2])
          | (go_at_call 50;refine(hK _ b1 _ _ _ hS).mono ?_;rintro e w2 ⟨rfl,rfl⟩;clear hK
             have c0:=(H.later b1).c0
             have cn:=(H.later b1).nk hkN
             rw [h4]at cn))
         go_returns
         exact⟨⟨_,_,rfl,fun _=>⟨hPD.out,rfl⟩⟩,b1⟩
       · rw [if_neg h4]
         have q4:((Z.nd (k:Int)).k != 2)=true:=by simpa using h4
         go_enter Tryz.func66,Tryz.ntmps66
         go_wp2_with (first
          | (go_at_call 109;refine hC.mono ?_;rintro e w1 ⟨⟨a,N,cc,rfl,hS⟩,b1⟩;clear hC;rw [h2])
          | (go_at_call 50;refine(hK _ b1 _ _ _ hS).mono ?_;rintro e w2 ⟨rfl,rfl⟩;clear hK
             have c0:=(H.later b1).c0
             have cn:=(H.later b1).nk hkN))
         go_returns
         exact⟨⟨_,_,rfl,fun e=>by cases e⟩,b1⟩
     · rw [if_neg h3]
       have q3:((Z.wk (lsN p) 1).2==0)=false:=by simpa using h3
       clear hlv hPD
       obtain⟨d,hd⟩:∃ d,(Z.wk (lsN p) 1).1=d:=⟨_,rfl⟩
       rw [hd]at hK
       generalize (Z.wk (lsN p) 1).2=E at *
       go_enter Tryz.func66,Tryz.ntmps66
       go_wp2_with (first
        | (go_at_call 109;refine hC.mono ?_;rintro e w1 ⟨⟨a,N,cc,rfl,hS⟩,b1⟩;clear hC;rw [h2])
        | (go_at_call 50;refine(hK _ b1 _ _ _ hS).mono ?_;rintro e w2 ⟨rfl,rfl⟩;clear hK))
       go_returns
       exact⟨⟨_,_,rfl,fun e=>absurd e h3⟩,b1⟩
   · rw [if_neg h2]
     have q1:(lsE p==2)=false:=by simpa using h1
     have q2:(lsE p != 0)=true:=by simpa using h2
     clear hK
     go_enter Tryz.func66,Tryz.ntmps66
     go_wp2_with (go_at_call 109;refine hC.mono ?_;rintro e w1 ⟨⟨a,N,cc,rfl,hS⟩,b1⟩;clear hC)
     go_returns
     exact⟨⟨_,_,rfl,fun e=>absurd e h2⟩,b1⟩
set_option maxRecDepth 100000
def but (s:List UInt8):List Ent→List Ent
 | []=> []
 | e::r=>if e.s=s then but s r else e::but s r
theorem Z7i {s:List UInt8} :∀ {l:List Ent},(∀ e ∈ l,e.s≠s)→but s l=l
 | [],_=>rfl
 | e::r,h=>by unfold but;rw [if_neg (h e (by simp)),Z7i (fun x hx=>h x (by simp [hx]))]
theorem Zcr {e:Ent} {r:List Ent} (hl:Srd (e::r)) {s:List UInt8} (h:ltB e.s s=false) (i:Int):ptL (e::r) s i=ins0 s i++but s (e::r):=by
 have h0:∀ x ∈ r,e.s=s→x.s≠s:=fun x hx he=>by rw [← he];exact fun c=>Z37 (hl.head x hx) c.symm
 have h1:e.s≠s→∀ x ∈ r,x.s≠s:=fun he x hx c=>by
  have:=Z45 (Z6o h he) (hl.head x hx)
  rw [c,Z4d]at this;cases this
 unfold ptL
 rw [if_neg (by rw [h];decide)]
 by_cases he:e.s=s
 · rw [if_pos he];unfold but;rw [if_pos he,Z7i (fun x hx=>h0 x hx he)]
 · rw [if_neg he];unfold but;rw [if_neg he,Z7i (h1 he)]
theorem Z34 {l:List Ent} {i:Nat} (hi:i < l.length):l.drop i=l.getD i Ent.zero::l.drop (i+1):=by
 rw [List.drop_eq_getElem_cons hi,List.getD_eq_getElem?_getD,List.getElem?_eq_getElem hi];rfl
theorem Zcy {l:List Ent} (h:Srd l) (i:Nat):Srd (l.drop i):=List.Pairwise.sublist (List.drop_sublist i l) h
def OwN (B:Nat) (w:World) (v:Value) (l:List Ent):Prop:=OwE' w v l∧New B v
theorem OwN.later {B:Nat} {w w':World} {v:Value} {l:List Ent} (h:OwN B w v l) (k:Below w.heap.size w w'):OwN B w' v l:=⟨Z61 h.1 k,h.2⟩
theorem OwN.one {B:Nat} {w:World} {v:Value} {l:List Ent} (h:OwN B w v l):v.oneCell'=true:=by
 rcases h.1.2 with⟨rfl,_⟩ | ⟨g,cap,cur,rfl,_⟩<;>rfl
theorem OwN.shape {B:Nat} {w:World} {v:Value} {l:List Ent} (h:OwN B w v l):∃ a n c,v= .slice a n c:=by
 rcases h.1.2 with⟨rfl,_⟩ | ⟨g,cap,cur,rfl,_⟩
 · exact⟨_,_,_,rfl⟩
 · exact⟨_,_,_,rfl⟩
def Ent.c2 (e:Ent):List Value:= [.int .i64 e.n, .string (str e.s)]
theorem Ent.c2_one (e:Ent):∀ v ∈ e.c2,v.oneCell'=true:=by
 intro v hv;unfold Ent.c2 at hv;simp at hv;rcases hv with rfl | rfl<;>rfl
theorem Z7a:Srt 66 2 Ent.zero.c2:=
 ⟨⟨_,Tryz.underlying66,rfl⟩,by kernel_rfl,fun w=>(zero_of_info (v:= .agg Ent.zero.c2.toArray) (n:=2) (by kernel_rfl)).1 w,rfl,Ent.zero.c2_one⟩
theorem Zai (x:Ent) (w:World):(Instr.buildSlice 46 1 #[(0, .agg x.c2.toArray)]).run Tryz.prog w= .ok (.slice (some ⟨w.heap.size,0,none⟩) 1 1) (w.alloc (.cells x.c2.toArray 66)):=by
 obtain⟨n,s⟩:=x;kernel_rfl
section
variable {ops : Array Oper} {rest : List Oper} {o : Oper} {a : Act} {w : World} {Q : Exit → Act → World → Prop}
theorem Z47 (hw:Region.wanted o (yielded ops a.tmps)=true) (x:Operand) (ho:o.op= .load 66 x) (b i:Nat) (hx:a.eval x= .pointer (some ⟨b,i,none⟩)) (e:Ent) (h1:w.cell? ⟨b,i,none⟩=some (.int .i64 e.n)) (h2:w.cell? ⟨b,i+1,none⟩=some (.string (str e.s)))
 (h:wpList Tryz.prog ops Q rest (a.put o.dst (.agg e.c2.toArray)) w):wpList Tryz.prog ops Q (o::rest) a w:=by
 refine Z0z hw _ _ ?_ h
 obtain⟨d,k1,k2⟩:=Z7a.und
 have hr:w.rangeAt b i e.c2:=fun j v hv=>by
  unfold Ent.c2 at hv
  match j,hv with
  | 0,hv=>simp at hv;subst hv;exact h1
  | 1,hv=>simp at hv;subst hv;exact h2
  | j+2,hv=>simp at hv
 have:(loadVar 66 ⟨b,i,none⟩).run Tryz.prog w= .ok (.agg e.c2.toArray) w:=run_loadVar_mid w b _ _ e.c2 _ hr k1 k2 (by rw [Z7a.size];rfl)
 simp [execOp,ho,hx,Instr.loadAt,Instr.sureAddr,this]
theorem Z3d (hw:Region.wanted o (yielded ops a.tmps)=true) (x:Operand) (ho:o.op= .buildSlice 46 1 #[(0,x)]) (y:Ent) (hx:a.eval x= .agg y.c2.toArray)
 (h:∀ g w',w.heap.size≤g→Cs w' g y.c2→Below w.heap.size w w'→wpList Tryz.prog ops Q rest (a.put o.dst (.slice (some ⟨g,0,none⟩) 1 1)) w'):wpList Tryz.prog ops Q (o::rest) a w:=by
 refine Z0z hw _ _ ?_ (h w.heap.size _ (Nat.le_refl _) (Cs.made w y.c2 66 y.c2_one) ((Below.refl _ _).alloc (Nat.le_refl _) _))
 simp [execOp,ho,hx,Zai]
theorem Zc0 {B:Nat} (hw:Region.wanted o (yielded ops a.tmps)=true) (ho:o.op= .buildSlice 46 0 #[]) (hB:B≤w.heap.size)
 (h:∀ g w',OwN B w' (.slice (some ⟨g,0,none⟩) 0 0) []→Below w.heap.size w w'→wpList Tryz.prog ops Q rest (a.put o.dst (.slice (some ⟨g,0,none⟩) 0 0)) w'):wpList Tryz.prog ops Q (o::rest) a w:=by
 have hR:(w.alloc (.cells #[] 66)).ownsRow B 66 2 (.slice (some ⟨w.heap.size,0,none⟩) 0 0) 0 []:=World.ownsRow_made w #[] 0 hB (Nat.zero_le _) rfl
 refine Z0z hw _ _ ?_ (h w.heap.size _ ⟨Z4k hR,fun r hr=>(hR.lt r hr).1⟩ ((Below.refl _ _).alloc (Nat.le_refl _) _))
 have:(Instr.buildSlice 46 0 #[]).run Tryz.prog w= .ok (.slice (some ⟨w.heap.size,0,none⟩) 0 0) (w.alloc (.cells #[] 66)):=by kernel_rfl
 simp [execOp,ho,this]
theorem Z2w {B:Nat} {v:Value} {l:List Ent} (hgd:o.guard=none) (s x:Operand)
 (ho:o.op= .call { callee:= .builtin .append,args:=#[s,x],argTypes:=#[46,46]}) (hs:a.eval s=v) (h0:OwN B w v l)
 (g2:Nat) (y:Ent) (hx:a.eval x= .slice (some ⟨g2,0,none⟩) 1 1) (hr:Cs w g2 y.c2) (hbig:l.length≤100000) (hB:B≤w.heap.size)
 (h:∀ v' w',OwN B w' v' (l++ [y])→Stp (fun x=>B≤x) w w'→wpList Tryz.prog ops Q rest (a.put o.dst v') w'):wpList Tryz.prog ops Q (o::rest) a w:=by
 refine Z3c elEn B hgd s x ho hs h0.1 h0.2 (some ⟨g2,0,none⟩) 1 y.c2 (m:=1) hx rfl (fun e=>by cases e) (fun ad e j u hu=>?_) y.c2_one (by omega) hB ?_
 · injection e with e;subst e
   rw [Addr.add_lit,Nat.zero_add];exact hr.cell j u hu
 intro v' w' hA
 obtain⟨h1,h2,h3,h4,h5⟩:=hA
 refine h v' w' ⟨?_,h2⟩ (h4.mono (fun x e=> .inl (h0.2 x e)))
 have e1:(l++ [y]).length=l.length+1:=by simp
 have e2:flE (l++ [y])=flE l++y.c2:=by rw [Z97];rfl
 unfold OwE'
 rw [e1,e2];exact h1
end
theorem Z2i {W w w':World} (h:Below W.heap.size W w) (k:Stp (fun x=>W.heap.size≤x) w w'):Below W.heap.size W w':=
 ((Stp.of_below h (fun _=>False)).next k (fun x e=> .inr e)).below (Nat.le_refl _) (fun x e=>e.elim)
set_option maxRecDepth 100000
def tnC (x:Nd) (s:Sv) (v:Value):List Value:= [.int .i64 x.k, .int .i64 x.ln,s.v,v]
theorem Z27 (x:Nd) (s:Sv) {v:Value} (h:v.oneCell'=true):∀ u ∈ tnC x s v,u.oneCell'=true:=by
 intro u hu;unfold tnC at hu;simp at hu;rcases hu with rfl | rfl | rfl | rfl<;>first | rfl | exact h
theorem Z1d:Srt 48 4 (tnC Nd.zero Sv.nil (.slice none 0 0)):=
 ⟨⟨_,Tryz.underlying48,rfl⟩,by kernel_rfl,fun w=>(zero_of_info (v:= .agg (tnC Nd.zero Sv.nil (.slice none 0 0)).toArray) (n:=4) (by kernel_rfl)).1 w,rfl,Z27 _ _ rfl⟩
section
variable {ops : Array Oper} {rest : List Oper} {o : Oper} {a : Act} {w : World} {Q : Exit → Act → World → Prop} {K : Act → World → Prop} {R : Prop}
theorem Zbm (hgd:o.guard=none) (x:Operand) (ho:o.op= .buildSlice 46 1 #[(0,x)]) (y:Ent) (hx:a.eval x= .agg y.c2.toArray)
 (h:∀ g w',w.heap.size≤g→Cs w' g y.c2→Below w.heap.size w w'→K (a.put o.dst (.slice (some ⟨g,0,none⟩) 1 1)) w'):if Region.wanted o (yielded ops a.tmps)=true then Oper.wp Tryz.prog o a w K Q else R:=by
 have hw:Region.wanted o (yielded ops a.tmps)=true:=by simp [Region.wanted,hgd]
 rw [if_pos hw]
 have hr:(execOp a.eval o).run Tryz.prog w= .ok (.value (.slice (some ⟨w.heap.size,0,none⟩) 1 1)) (w.alloc (.cells y.c2.toArray 66)):=by simp [execOp,ho,hx,Zai]
 unfold Oper.wp
 rw [hr]
 exact h w.heap.size _ (Nat.le_refl _) (Cs.made w y.c2 66 y.c2_one) ((Below.refl _ _).alloc (Nat.le_refl _) _)
theorem Zaa {B:Nat} {v:Value} {l:List Ent} (hgd:o.guard=none) (s x:Operand)
 (ho:o.op= .call { callee:= .builtin .append,args:=#[s,x],argTypes:=#[46,46]}) (hs:a.eval s=v) (h0:OwN B w v l)
 (g2:Nat) (y:Ent) (hx:a.eval x= .slice (some ⟨g2,0,none⟩) 1 1) (hr:Cs w g2 y.c2) (hbig:l.length≤100000) (hB:B≤w.heap.size)
 (h:∀ v' w',OwN B w' v' (l++ [y])→Stp (fun x=>B≤x) w w'→K (a.put o.dst v') w'):if Region.wanted o (yielded ops a.tmps)=true then Oper.wp Tryz.prog o a w K Q else R:=by
 refine Zbl elEn B hgd s x ho hs h0.1 h0.2 (some ⟨g2,0,none⟩) 1 y.c2 (m:=1) hx rfl (fun e=>by cases e) (fun ad e j u hu=>?_) y.c2_one (by omega) hB ?_
 · injection e with e;subst e
   rw [Addr.add_lit,Nat.zero_add];exact hr.cell j u hu
 intro v' w' hA
 obtain⟨h1,h2,h3,h4,h5⟩:=hA
 refine h v' w' ⟨?_,h2⟩ (h4.mono (fun x e=> .inl (h0.2 x e)))
 have e1:(l++ [y]).length=l.length+1:=by simp
 have e2:flE (l++ [y])=flE l++y.c2:=by rw [Z97];rfl
 unfold OwE'
 rw [e1,e2];exact h1
end
def RetN (e:Ending) (x:Nd) (w w':World):Prop:=∃ s t:Sv,e= .returned (.tuple #[.agg (tnC x s t.v).toArray, .int .i64 (if x.k=0 then 5 else 0)])∧BsS w' s x.d∧EsS w' t x.nm∧Below w.heap.size w w'
theorem Ze5 {w:World} {U:Nat→Prop} {g B m n:Nat} {q:Int→Nat} {Z:Tz} {x:Int→Int} (h:Tx w U g q B Z) (hz:Z.okD m n x) {i:Int} (hi:wfi i) (hk:(Z.nd i).k=0):
 Calls Tryz.prog 14 #[.pointer (some ⟨g,0,none⟩), .int .i64 i] w fun e w'=>RetN e (Z.nd i) w w':=by
 have h0:=hz.gn i hk
 obtain⟨tg,mb,ob,nb,sv,H,hU⟩:=h
 rw [h0]
 have c0:=H.c0
 go_enter Tryz.func14,Tryz.ntmps14
 go_wp2_with (first
  | (refine Z1i 48 4 _ Z1d (by rfl) (by rfl) ?_;intro gr w1 z1 z2 r1 b1
     have H1:=H.later b1
     clear c0
     have c0:=H1.c0
     have lo:=H1.lookN hk hi)
  | (refine Z1e 48 4 _ Z1d (by rfl) _ _ (by rfl) gr (by rfl) (tnC Nd.zero Sv.nil (.slice none 0 0)) (by rfl) rfl (Z27 _ _ rfl) _ r1 rfl ?_;intro w9 r9 s9))
 exact bodyPost_ret (Z0d Z1d Tryz.results14 rfl rfl r9 rfl) rfl ⟨Sv.nil,Sv.nil,rfl,Z0y _,EsS.nil _,((Stp.of_below b1 (fun _=>False)).next s9 (fun y e=> .inr (by omega))).below (Nat.le_refl _) (fun y e=>e.elim)⟩
end Go.Proofs.YtdnjddpfcgginaaGreat
