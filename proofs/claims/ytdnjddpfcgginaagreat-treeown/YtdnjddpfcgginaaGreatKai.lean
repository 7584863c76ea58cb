/-
  Texts of my own, joined: no statement is proved here.
-/
import Derived.SliceStrings
import Derived.Laws.IdiomStrings
import Derived.Deep.RegionLaw
import Derived.Test.YtdnjddpfcgginaaGreatKag
set_option linter.unusedSimpArgs false
set_option linter.unusedVariables false
namespace Go.Proofs.YtdnjddpfcgginaaGreat
open Go.ChangeShapes Go.WideShapes Go.ChangeAt Go.RowKit
theorem Z7y (F:Nat→Value) (n i:Nat) (v:Value):((List.range n).map F).set i v=(List.range n).map (fun j=>if j=i then v else F j):=by
 apply List.ext_getElem
 · simp
 · intro j h1 h2
   simp only [List.length_set,List.length_map,List.length_range]at h1
   rw [List.getElem_set]
   simp only [List.getElem_map,List.getElem_range]
   by_cases e:i=j
   · subst e;simp
   · rw [if_neg e,if_neg (fun h=>e h.symm)]
theorem Z23 (F:Nat→Value) {n i:Nat} (h:i < n):((List.range n).map F)[i]? =some (F i):=by
 rw [List.getElem?_map,List.getElem?_range h];rfl
def Rfn (w:World) (g n:Nat) (F:Nat→Value):Prop:=Cs w g ((List.range n).map F)
section
variable {w w' : World} {g n : Nat} {F : Nat → Value} {U : Nat → Prop}
theorem Rfn.cell (h:Rfn w g n F) {i:Nat} (hi:i < n):w.cell? ⟨g,i,none⟩=some (F i):=Cs.cell h i _ (Z23 F hi)
theorem Rfn.fz (h:Rfn w g n F) (i:Nat):w.frozen? ⟨g,i,none⟩=false:=Cs.frozen h i
theorem Rfn.lt (h:Rfn w g n F):g < w.heap.size:=Cs.lt h
theorem Rfn.step (h:Rfn w g n F) (k:Stp U w w') (hg:¬U g):Rfn w' g n F:=Cs.step h k hg
theorem Rfn.set (h:Rfn w g n F) (i:Nat) (v:Value) (hv:v.oneCell'=true):Rfn (w.setCell ⟨g,i,none⟩ v) g n (fun j=>if j=i then v else F j):=by
 have:=Cs.set h i v hv
 rw [Z7y]at this
 exact this
end
def pv (t:FT) (q:Nat→Nat) (i:Nat):Value:= .pointer ((t i).map fun _=>⟨q i,0,none⟩)
theorem Z9i {t:FT} {q:Nat→Nat} {i:Nat} (h:t i=none):pv t q i= .pointer none:=by unfold pv;rw [h];rfl
theorem Z9j {t:FT} {q:Nat→Nat} {i:Nat} {f:Fl} (h:t i=some f):pv t q i= .pointer (some ⟨q i,0,none⟩):=by unfold pv;rw [h];rfl
theorem Zhb {t:FT} {q:Nat→Nat} {i b:Nat} {f:Fl} :pv (fdUp t i (some f)) (fun j=>if j=i then b else q j)=fun j=>if j=i then .pointer (some ⟨b,0,none⟩)else pv t q j:=by
 funext j
 unfold pv fdUp
 by_cases e:j=i
 · simp [e]
 · simp [e]
theorem Z78 {t:FT} {q:Nat→Nat} {i:Nat} :pv (fdUp t i none) q=fun j=>if j=i then .pointer none else pv t q j:=by
 funext j
 unfold pv fdUp
 by_cases e:j=i
 · simp [e]
 · simp [e]
theorem Ze9 {t:FT} {q:Nat→Nat} {i:Nat} {f f':Fl} (h:t i=some f):pv (fdUp t i (some f')) q=pv t q:=by
 funext j
 unfold pv fdUp
 by_cases e:j=i
 · subst e;simp [h]
 · simp [e]
structure Fx (w:World) (U:Nat→Prop) (g:Nat) (q:Nat→Nat) (t:FT):Prop where
 u:U g
 low:∀ x,U x→x < w.heap.size
 row:Rfn w g 8 (pv t q)
 fl:∀ i f,i < 8→t i=some f→U (q i)∧q i≠g∧Cs w (q i) f.cs
 inj:∀ i j,i < 8→j < 8→(t i).isSome=true→(t j).isSome=true→q i=q j→i=j
section
variable {w w' : World} {g : Nat} {U F : Nat → Prop} {q : Nat → Nat} {t : FT}
theorem Fx.step (h:Fx w U g q t) (k:Stp F w w') (hF:∀ x,U x→¬F x):Fx w' U g q t:=
 ⟨h.u,fun x hx=>Nat.lt_of_lt_of_le (h.low x hx) k.size,h.row.step k (hF g h.u),fun i f hi ht=>by
   obtain⟨h1,h2,h3⟩:=h.fl i f hi ht
   exact⟨h1,h2,h3.step k (hF _ h1)⟩,h.inj⟩
theorem Fx.later (h:Fx w U g q t) (k:Below w.heap.size w w'):Fx w' U g q t:=h.step (Stp.of_below k (fun _=>False)) (fun _ _=>id)
theorem Fx.at0 (h:Fx w U g q t) {i:Nat} (hi:i < 8) (ht:t i=none):w.cell? ⟨g,i,none⟩=some (.pointer none):=by rw [h.row.cell hi,Z9i ht]
theorem Fx.at1 (h:Fx w U g q t) {i:Nat} {f:Fl} (hi:i < 8) (ht:t i=some f):w.cell? ⟨g,i,none⟩=some (.pointer (some ⟨q i,0,none⟩)):=by rw [h.row.cell hi,Z9j ht]
theorem Fx.put (h:Fx w U g q t) {i b:Nat} {f:Fl} (hi:i < 8) (hb:Cs w b f.cs) (hU:¬U b):Fx (w.setCell ⟨g,i,none⟩ (.pointer (some ⟨b,0,none⟩))) (fun x=>U x∨x=b) g (fun j=>if j=i then b else q j) (fdUp t i (some f)):=by
 have hs:Stp (fun x=>x=g) w (w.setCell ⟨g,i,none⟩ (.pointer (some ⟨b,0,none⟩))):=(Stp.refl (fun x=>x=g) w).setCell (p:=⟨g,i,none⟩) (.inl rfl) _
 have hbg:¬b=g:=fun e=>hU (e▸h.u)
 refine⟨.inl h.u,fun x hx=>?_,?_,fun j f' hj ht=>?_,fun j k hj hk h1 h2 e=>?_⟩
 · have:=hs.size
   rcases hx with e | e
   · have:=h.low x e;omega
   · have:=hb.lt;omega
 · rw [Zhb];exact h.row.set i _ rfl
 · unfold fdUp at ht
   by_cases e:j=i
   · rw [if_pos e]at ht ⊢
     injection ht with ht;subst ht
     exact⟨.inr rfl,hbg,hb.step hs hbg⟩
   · rw [if_neg e]at ht ⊢
     obtain⟨h1,h2,h3⟩:=h.fl j f' hj ht
     exact⟨.inl h1,h2,h3.step hs h2⟩
 · unfold fdUp at h1 h2
   by_cases e1:j=i
   · by_cases e2:k=i
     · omega
     · simp only [e1,if_true,e2,if_false]at e h2
       obtain⟨f',hf⟩:=Option.isSome_iff_exists.1 h2
       exact absurd (e▸(h.fl k f' hk hf).1) hU
   · by_cases e2:k=i
     · simp only [e2,if_true,e1,if_false]at e h1
       obtain⟨f',hf⟩:=Option.isSome_iff_exists.1 h1
       exact absurd (e▸(h.fl j f' hj hf).1) hU
     · simp only [e1,e2,if_false]at e h1 h2
       exact h.inj j k hj hk h1 h2 e
theorem Fx.free (h:Fx w U g q t) {i:Nat} :Fx (w.setCell ⟨g,i,none⟩ (.pointer none)) U g q (fdUp t i none):=by
 have hs:Stp (fun x=>x=g) w (w.setCell ⟨g,i,none⟩ (.pointer none)):=(Stp.refl (fun x=>x=g) w).setCell (p:=⟨g,i,none⟩) (.inl rfl) _
 refine⟨h.u,fun x hx=>Nat.lt_of_lt_of_le (h.low x hx) hs.size,?_,fun j f' hj ht=>?_,fun j k hj hk h1 h2 e=>?_⟩
 · rw [Z78];exact h.row.set i _ rfl
 · unfold fdUp at ht
   by_cases e:j=i
   · rw [if_pos e]at ht;cases ht
   · rw [if_neg e]at ht
     obtain⟨h1,h2,h3⟩:=h.fl j f' hj ht
     exact⟨h1,h2,h3.step hs h2⟩
 · unfold fdUp at h1 h2
   by_cases e1:j=i
   · rw [if_pos e1]at h1;cases h1
   · by_cases e2:k=i
     · rw [if_pos e2]at h2;cases h2
     · rw [if_neg e1]at h1;rw [if_neg e2]at h2
       exact h.inj j k hj hk h1 h2 e
theorem Fx.pos (h:Fx w U g q t) {i:Nat} {f:Fl} (hi:i < 8) (ht:t i=some f) (p:Int):Fx (w.setCell ⟨q i,1,none⟩ (.int .i64 p)) U g q (fdUp t i (some ⟨f.i,p,f.m⟩)):=by
 obtain⟨a1,a2,a3⟩:=h.fl i f hi ht
 have hs:Stp (fun x=>x=q i) w (w.setCell ⟨q i,1,none⟩ (.int .i64 p)):=(Stp.refl (fun x=>x=q i) w).setCell (p:=⟨q i,1,none⟩) (.inl rfl) _
 refine⟨h.u,fun x hx=>Nat.lt_of_lt_of_le (h.low x hx) hs.size,?_,fun j f' hj ht'=>?_,fun j k hj hk h1 h2 e=>?_⟩
 · rw [Ze9 ht];exact h.row.step hs (fun e=>a2 e.symm)
 · unfold fdUp at ht'
   by_cases e:j=i
   · rw [if_pos e]at ht'
     injection ht' with ht';subst ht';subst e
     exact⟨a1,a2,a3.set 1 _ rfl⟩
   · rw [if_neg e]at ht'
     obtain⟨h1,h2,h3⟩:=h.fl j f' hj ht'
     exact⟨h1,h2,h3.step hs (fun e'=>e (h.inj j i hj hi (by rw [ht'];rfl) (by rw [ht];rfl) e'))⟩
 · have hh:∀ j,(fdUp t i (some ⟨f.i,p,f.m⟩) j).isSome=true→(t j).isSome=true:=fun j h1=>by
    unfold fdUp at h1
    by_cases e1:j=i
    · subst e1;rw [ht];rfl
    · rw [if_neg e1]at h1;exact h1
   exact h.inj j k hj hk (hh j h1) (hh k h2) e
end
def Fd (w:World) (U:Nat→Prop) (g:Nat) (t:FT):Prop:=∃ q,Fx w U g q t
section
variable {w w' : World} {g : Nat} {U F : Nat → Prop} {t : FT}
theorem Fd.u (h:Fd w U g t):U g:=by obtain⟨q,h⟩:=h;exact h.u
theorem Fd.low (h:Fd w U g t):∀ x,U x→x < w.heap.size:=by obtain⟨q,h⟩:=h;exact h.low
theorem Fd.step (h:Fd w U g t) (k:Stp F w w') (hF:∀ x,U x→¬F x):Fd w' U g t:=by obtain⟨q,h⟩:=h;exact⟨q,h.step k hF⟩
theorem Fd.later (h:Fd w U g t) (k:Below w.heap.size w w'):Fd w' U g t:=by obtain⟨q,h⟩:=h;exact⟨q,h.later k⟩
theorem Fd.made (w:World) (T:TypeId):Fd (w.alloc (.cells (List.replicate 8 (Value.pointer none)).toArray T)) (fun x=>x=w.heap.size) w.heap.size Z2s:=by
 refine⟨fun _=>0,⟨rfl,fun x e=>by subst e;simp,?_,(fun i f _ h=>by cases h),(fun i j _ _ h _ _=>by cases h)⟩⟩
 have:(List.range 8).map (pv Z2s (fun _=>0))=List.replicate 8 (Value.pointer none):=rfl
 unfold Rfn
 rw [this]
 exact Cs.made w _ T (fun v hv=>by rw [(List.mem_replicate.1 hv).2];rfl)
end
def FdG (U:Nat→Prop) (g:Nat) (t':FT) (w w':World):Prop:=∃ U',Fd w' U' g t'∧Stp U w w'∧Grew U U' w w'
theorem Z4r (w:World):
 Calls Tryz.prog 24 #[] w fun e w'=>∃ g U,e= .returned (.pointer (some ⟨g,0,none⟩))∧w.heap.size≤g∧Below w.heap.size w w'∧Fd w' U g Z2s∧∀ x,U x→w.heap.size≤x:=by
 have hz:∀ u:World,(Instr.build 94 #[]).run Tryz.prog u= .ok (.agg (List.replicate 8 (Value.pointer none)).toArray) u:=fun u=>by kernel_rfl
 go_enter Tryz.func24,Tryz.ntmps24
 go_wp2
 go_returns
 exact⟨_,_,rfl,Nat.le_refl _,by go_grown,Fd.made w _,fun x e=>by rw [e];exact Nat.le_refl _⟩
theorem Z6v {w:World} {U:Nat→Prop} {g:Nat} {t:FT} (h:Fd w U g t):
 Calls Tryz.prog 131 #[.pointer (some ⟨g,0,none⟩)] w fun e w'=>e= .returned (.int .i64 (fdFr t:Int))∧w=w':=by
 obtain⟨q,h⟩:=h
 go_enter Tryz.func131,Tryz.ntmps131
 go_wp2
 go_loopw [3] (fun x wr=>∃ k:Nat,k≤8∧x= .int .i64 (k:Int)∧w=wr∧∀ i,i < k→(t i).isSome=true) (fun x _=>8 - (intOf x).toNat)
 case atStart=>exact⟨0,Nat.zero_le _,rfl,rfl,fun i hi=>by omega⟩
 case round=>
  obtain⟨k,hk,rfl,rfl,hs⟩:=hrel
  by_cases hlt:(k:Int) < 8
  · cases ht:t k with
    | none=>
      have c0:=h.at0 (i:=k) (by omega) ht
      have hf:(fdFr t:Int)=(k:Int):=by rw [Z4b (by omega) hs (.inr ht)]
      have hf':Hid ((fdFr t:Int)=(k:Int)):=hf
      clear hf
      have a0:(0:Int)≤(k:Int):=by omega
      go_wp2
      go_returns
      exact⟨by rw [hf'.out];simp,rfl⟩
    | some f=>
      have c0:=h.at1 (i:=k) (by omega) ht
      have a0:(0:Int)≤(k:Int):=by omega
      have hs':∀ i,i < k+1→(t i).isSome=true:=fun i hi=>by
       by_cases e:i=k
       · subst e;rw [ht];rfl
       · exact hs i (by omega)
      clear hs
      go_wp2
      go_roundw
      case rel=>exact⟨k+1,by omega,by go_num,by simp,hs'⟩
      case measure=>simp [intOf];omega
  · have hk8:k=8:=by omega
    subst hk8
    have hf:(fdFr t:Int)=8:=by rw [Z4b (Nat.le_refl _) hs (.inl rfl)];rfl
    have hf':Hid ((fdFr t:Int)=8):=hf
    clear hf
    go_wp2
    go_returns
    exact⟨by rw [hf'.out];simp,rfl⟩
theorem Z7n {w:World} {U:Nat→Prop} {g:Nat} {q:Nat→Nat} {t:FT} (h:Fx w U g q t) (x:Int) (hx:Z0u t x=none):
 Calls Tryz.prog 108 #[.pointer (some ⟨g,0,none⟩), .int .i64 x] w fun e w'=>e= .returned (.tuple #[.pointer none, .int .i64 46])∧w=w':=by
 by_cases h1:x < 0
 · go_enter Tryz.func108,Tryz.ntmps108
   go_wp2
   go_returns
   exact⟨rfl,rfl⟩
 · by_cases h2:x ≥ 8
   · have h3:¬x < 0:=h1
     go_enter Tryz.func108,Tryz.ntmps108
     go_wp2
     go_returns
     exact⟨rfl,rfl⟩
   · obtain⟨k,rfl⟩:∃ k:Nat,x=(k:Int):=⟨x.toNat,by omega⟩
     have hk:k < 8:=by omega
     rw [Z29 hk]at hx
     have c0:=h.at0 hk hx
     have a0:(0:Int)≤(k:Int):=by omega
     have a1:(k:Int) < 8:=by omega
     have a2:¬(8:Int)≤(k:Int):=by omega
     have a3:¬(k:Int) < 0:=by omega
     clear hx h1 h2
     go_enter Tryz.func108,Tryz.ntmps108
     go_wp2
     go_returns
     exact⟨rfl,rfl⟩
theorem Z5j {w:World} {U:Nat→Prop} {g:Nat} {q:Nat→Nat} {t:FT} (h:Fx w U g q t) (k:Nat) (hk:k < 8) {f:Fl} (hx:t k=some f):
 Calls Tryz.prog 108 #[.pointer (some ⟨g,0,none⟩), .int .i64 (k:Int)] w fun e w'=>e= .returned (.tuple #[.pointer (some ⟨q k,0,none⟩), .int .i64 0])∧w=w':=by
 have c0:=h.at1 hk hx
 have a0:(0:Int)≤(k:Int):=by omega
 have a1:(k:Int) < 8:=by omega
 have a2:¬(8:Int)≤(k:Int):=by omega
 have a3:¬(k:Int) < 0:=by omega
 clear hx
 go_enter Tryz.func108,Tryz.ntmps108
 go_wp2
 go_returns
 exact⟨rfl,rfl⟩
theorem Z2t:Srt 108 3 Fl.zero.cs:=
 ⟨⟨_,Tryz.underlying108,rfl⟩,by kernel_rfl,fun w=>(zero_of_info (v:= .agg Fl.zero.cs.toArray) (n:=3) (by kernel_rfl)).1 w,rfl,Fl.zero.cs_one⟩
section
variable {ops : Array Oper} {rest : List Oper} {o : Oper} {a : Act} {w : World} {Q : Exit → Act → World → Prop}
theorem Z0x (hw:Region.wanted o (yielded ops a.tmps)=true) (ho:o.op= .alloc 108)
 (h:∀ g w',w.heap.size≤g→g < w'.heap.size→Cs w' g Fl.zero.cs→Below w.heap.size w w'→wpList Tryz.prog ops Q rest (a.put o.dst (.pointer (some ⟨g,0,none⟩))) w'):wpList Tryz.prog ops Q (o::rest) a w:=
 Z1i 108 3 _ Z2t hw ho h
theorem Z4n (hw:Region.wanted o (yielded ops a.tmps)=true) (y:Operand) (ho:o.op= .load 108 y) (g:Nat) (hx:a.eval y= .pointer (some ⟨g,0,none⟩)) (f:Fl) (hR:Cs w g f.cs)
 (h:wpList Tryz.prog ops Q rest (a.put o.dst (.agg f.cs.toArray)) w):wpList Tryz.prog ops Q (o::rest) a w:=
 Z0k 108 3 _ Z2t hw y ho g hx f.cs hR rfl h
theorem Z10 (hw:Region.wanted o (yielded ops a.tmps)=true) (y z:Operand) (ho:o.op= .store 108 y z) (g:Nat) (hx:a.eval y= .pointer (some ⟨g,0,none⟩)) (f:Fl) (hy:a.eval z= .agg f.cs.toArray) (cs:List Value) (hR:Cs w g cs) (hl:cs.length=3)
 (h:∀ w',Cs w' g f.cs→Stp (fun x=>x=g) w w'→wpList Tryz.prog ops Q rest (a.put o.dst undef) w'):wpList Tryz.prog ops Q (o::rest) a w:=
 Z1e 108 3 _ Z2t hw y z ho g hx f.cs hy rfl f.cs_one cs hR hl h
end
theorem Z0o {w:World} {U:Nat→Prop} {g:Nat} {t:FT} (h:Fd w U g t) (x:Int):
 Calls Tryz.prog 65 #[.pointer (some ⟨g,0,none⟩), .int .i64 x] w fun e w'=>e= .returned (.tuple #[.agg (Z01 t x).cs.toArray, .int .i64 (Z04 t x)])∧Below w.heap.size w w':=by
 obtain⟨q,h⟩:=h
 cases hh:Z0u t x with
 | none=>
   have e1:Z01 t x=Fl.zero:=by unfold Z01;rw [hh];rfl
   have e2:Z04 t x=46:=by unfold Z04;rw [hh];rfl
   rw [e1,e2]
   have hA:=fun w' (b:Below w.heap.size w w')=>Z7n (h.later b) x hh
   clear e1 e2
   go_enter Tryz.func65,Tryz.ntmps65
   go_wp2_with (first
    | (refine Z0x (by rfl) (by rfl) ?_;intro g1 w1 a1 a2 r1 b1)
    | (go_at_call 108;refine(hA _ b1).mono ?_;rintro e u ⟨rfl,rfl⟩;clear hA)
    | (refine Z10 (by rfl) _ _ (by rfl) g1 (by rfl) Fl.zero (by rfl) _ r1 rfl ?_;intro w2 r2 s2))
   exact bodyPost_ret (Z0d Z2t Tryz.results65 rfl rfl r2 rfl) rfl ⟨rfl,((Stp.of_below b1 (fun _=>False)).next s2 (fun x e=> .inr (by omega))).below (Nat.le_refl _) (fun _ h=>h.elim)⟩
 | some f=>
   obtain ⟨k,hk,rfl⟩:∃ k:Nat,k < 8∧x=(k:Int):=by
    unfold Z0u at hh
    split at hh
    · exact⟨x.toNat,by omega,by omega⟩
    · cases hh
   have e1:Z01 t (k:Int)=f:=by unfold Z01;rw [hh];rfl
   have e2:Z04 t (k:Int)=0:=by unfold Z04;rw [hh];rfl
   rw [e1,e2]
   rw [Z29 hk]at hh
   have hA:=fun w' (b:Below w.heap.size w w')=>Z5j (h.later b) k hk hh
   have hF:=fun w' (b:Below w.heap.size w w')=>((h.later b).fl k f hk hh).2.2
   clear e1 e2
   go_enter Tryz.func65,Tryz.ntmps65
   go_wp2_with (first
    | (refine Z0x (by rfl) (by rfl) ?_;intro g1 w1 a1 a2 r1 b1)
    | (go_at_call 108;refine(hA _ b1).mono ?_;rintro e u ⟨rfl,rfl⟩;clear hA)
    | (refine Z4n (by rfl) _ (by rfl) (q k) (by rfl) f (hF _ b1) ?_)
    | (refine Z10 (by rfl) _ _ (by rfl) g1 (by rfl) f (by rfl) _ r1 rfl ?_;intro w2 r2 s2))
   exact bodyPost_ret (Z0d Z2t Tryz.results65 rfl rfl r2 rfl) rfl ⟨rfl,((Stp.of_below b1 (fun _=>False)).next s2 (fun x e=> .inr (by omega))).below (Nat.le_refl _) (fun _ h=>h.elim)⟩
theorem Z4o {w:World} {U:Nat→Prop} {g:Nat} {t:FT} (h:Fd w U g t) (x:Int):
 Calls Tryz.prog 100 #[.pointer (some ⟨g,0,none⟩), .int .i64 x] w fun e w'=>e= .returned (.tuple #[.agg (Z01 t x).cs.toArray, .int .i64 (Z04 t x)])∧Fd w' U g (Z12 t x)∧Stp U w w':=by
 obtain⟨q,h⟩:=h
 have hgl:=h.row.lt
 cases hh:Z0u t x with
 | none=>
   have e1:Z01 t x=Fl.zero:=by unfold Z01;rw [hh];rfl
   have e2:Z04 t x=46:=by unfold Z04;rw [hh];rfl
   have e3:Z12 t x=t:=by unfold Z12;rw [hh]
   rw [e1,e2,e3]
   have hA:=fun w' (b:Below w.heap.size w w')=>Z7n (h.later b) x hh
   clear e1 e2 e3
   go_enter Tryz.func100,Tryz.ntmps100
   go_wp2_with (first
    | (refine Z0x (by rfl) (by rfl) ?_;intro g1 w1 a1 a2 r1 b1)
    | (go_at_call 108;refine(hA _ b1).mono ?_;rintro e u ⟨rfl,rfl⟩;clear hA)
    | (refine Z10 (by rfl) _ _ (by rfl) g1 (by rfl) Fl.zero (by rfl) _ r1 rfl ?_;intro w2 r2 s2))
   have B:Below w.heap.size w w2:=((Stp.of_below b1 (fun _=>False)).next s2 (fun x e=> .inr (by omega))).below (Nat.le_refl _) (fun _ h=>h.elim)
   exact bodyPost_ret (Z0d Z2t Tryz.results100 rfl rfl r2 rfl) rfl ⟨rfl,⟨q,h.later B⟩,Stp.of_below B U⟩
 | some f=>
   obtain ⟨k,hk,rfl⟩:∃ k:Nat,k < 8∧x=(k:Int):=by
    unfold Z0u at hh
    split at hh
    · exact⟨x.toNat,by omega,by omega⟩
    · cases hh
   have e1:Z01 t (k:Int)=f:=by unfold Z01;rw [hh];rfl
   have e2:Z04 t (k:Int)=0:=by unfold Z04;rw [hh];rfl
   have e3:Z12 t (k:Int)=fdUp t k none:=by unfold Z12;rw [hh];simp
   rw [e1,e2,e3]
   rw [Z29 hk]at hh
   have hA:=fun w' (b:Below w.heap.size w w')=>Z5j (h.later b) k hk hh
   have a0:(0:Int)≤(k:Int):=by omega
   have a1:(k:Int) < 8:=by omega
   have tk:Hid True:=trivial
   clear e1 e2 e3
   go_enter Tryz.func100,Tryz.ntmps100
   go_wp2_with (first
    | (refine Z0x (by rfl) (by rfl) ?_;intro g1 w1 z1 z2 r1 b1
       have h1:=h.later b1
       have c1:=h1.at1 hk hh
       have f1:=h1.row.fz k
       have c2:=(h1.fl k f hk hh).2.2.step ((Stp.refl (fun x=>x=g) w1).setCell (p:=⟨g,k,none⟩) (.inl rfl) (.pointer none)) (fun e=>(h1.fl k f hk hh).2.1 e))
    | (go_at_call 108;refine(hA _ b1).mono ?_;rintro e u ⟨rfl,rfl⟩;clear hA)
    | (refine Z4n (by rfl) _ (by rfl) (q k) (by rfl) f c2 ?_)
    | (refine Z10 (by rfl) _ _ (by rfl) g1 (by rfl) f (by rfl) _ (r1.step ((Stp.refl (fun x=>x=g) w1).setCell (p:=⟨g,k,none⟩) (.inl rfl) (.pointer none)) (fun e=>by have e:g1=g:=e;omega)) rfl ?_;intro w2 r2 s2))
   have H2:=(h1.free (i:=k)).step s2 (fun x hx e=>by have:=h.low x hx;omega)
   refine bodyPost_ret (Z0d Z2t Tryz.results100 rfl rfl r2 rfl) rfl ⟨rfl,⟨q,H2⟩,?_⟩
   exact((Stp.of_below b1 U).setCell (p:=⟨g,k,none⟩) (.inl h.u) _).next s2 (fun x e=> .inr (by omega))
theorem Z3k {w:World} {U:Nat→Prop} {g:Nat} {t:FT} (h:Fd w U g t) (x p:Int):
 Calls Tryz.prog 103 #[.pointer (some ⟨g,0,none⟩), .int .i64 x, .int .i64 p] w fun e w'=>e= .returned (.int .i64 (Z0w t x p))∧Fd w' U g (Z0f t x p)∧Stp U w w':=by
 obtain⟨q,h⟩:=h
 cases hh:Z0u t x with
 | none=>
   have e2:Z0w t x p=46:=by unfold Z0w;rw [hh];rfl
   have e3:Z0f t x p=t:=by unfold Z0f;rw [hh]
   rw [e2,e3]
   have hA:=Z7n h x hh
   clear e2 e3
   go_enter Tryz.func103,Tryz.ntmps103
   go_wp2_with (go_at_call 108;refine hA.mono ?_;rintro e u ⟨rfl,rfl⟩;clear hA)
   go_returns
   exact⟨rfl,⟨q,h⟩,Stp.refl _ _⟩
 | some f=>
   obtain ⟨k,hk,rfl⟩:∃ k:Nat,k < 8∧x=(k:Int):=by
    unfold Z0u at hh
    split at hh
    · exact⟨x.toNat,by omega,by omega⟩
    · cases hh
   by_cases hp:p < 0
   · have e2:Z0w t (k:Int) p=2:=by unfold Z0w;rw [hh];simp [hp]
     have e3:Z0f t (k:Int) p=t:=by unfold Z0f;rw [hh];simp [hp]
     rw [e2,e3]
     rw [Z29 hk]at hh
     have hA:=Z5j h k hk hh
     clear e2 e3
     go_enter Tryz.func103,Tryz.ntmps103
     go_wp2_with (go_at_call 108;refine hA.mono ?_;rintro e u ⟨rfl,rfl⟩;clear hA)
     go_returns
     exact⟨rfl,⟨q,h⟩,Stp.refl _ _⟩
   · have e2:Z0w t (k:Int) p=0:=by unfold Z0w;rw [hh];simp [hp]
     have e3:Z0f t (k:Int) p=fdUp t k (some ⟨f.i,p,f.m⟩):=by unfold Z0f;rw [hh];simp [hp]
     rw [e2,e3]
     rw [Z29 hk]at hh
     have hA:=Z5j h k hk hh
     obtain⟨h1,h2,h3⟩:=h.fl k f hk hh
     have c1:=h3.cell 1 _ (show f.cs[1]? =some (.int .i64 f.p)from rfl)
     have f1:=h3.frozen 1
     clear e2 e3
     go_enter Tryz.func103,Tryz.ntmps103
     go_wp2_with (go_at_call 108;refine hA.mono ?_;rintro e u ⟨rfl,rfl⟩;clear hA)
     go_returns
     exact⟨rfl,⟨q,h.pos hk hh p⟩,(Stp.refl U w).setCell (p:=⟨q k,1,none⟩) (.inl h1) _⟩
theorem Z43 {w:World} {U:Nat→Prop} {g:Nat} {t:FT} (h:Fd w U g t) (x m:Int):
 Calls Tryz.prog 99 #[.pointer (some ⟨g,0,none⟩), .int .i64 x, .int .i64 m] w fun e w'=>e= .returned (.tuple #[.int .i64 (Z15 t), .int .i64 (Z19 t)])∧FdG U g (Z0g t x m) w w':=by
 have hF:=Z6v h
 obtain⟨q,h⟩:=h
 by_cases h8:fdFr t=8
 · have e1:Z15 t=0:=by unfold Z15;rw [if_pos h8]
   have e2:Z19 t=47:=by unfold Z19;rw [if_pos h8]
   have e3:Z0g t x m=t:=by unfold Z0g;rw [if_pos h8]
   rw [e1,e2,e3]
   rw [h8]at hF
   clear e1 e2 e3 h8
   go_enter Tryz.func99,Tryz.ntmps99
   go_wp2_with (go_at_call 131;refine hF.mono ?_;rintro e u ⟨rfl,rfl⟩;clear hF)
   go_returns
   exact⟨rfl,U,⟨q,h⟩,Stp.refl _ _,Grew.refl _ _ _⟩
 · have e1:Z15 t=(fdFr t:Int):=by unfold Z15;rw [if_neg h8]
   have e2:Z19 t=0:=by unfold Z19;rw [if_neg h8]
   have e3:Z0g t x m=fdUp t (fdFr t) (some ⟨x,0,m⟩):=by unfold Z0g;rw [if_neg h8]
   rw [e1,e2,e3]
   have hn:=Zao h8
   have hl:=Zdx t
   generalize fdFr t=k at *
   have hk:k < 8:=by omega
   have a0:(0:Int)≤(k:Int):=by omega
   have a1:(k:Int) < 8:=by omega
   have a2:¬(k:Int)=8:=by omega
   have hgl:=h.row.lt
   clear e1 e2 e3 h8 hl
   go_enter Tryz.func99,Tryz.ntmps99
   go_wp2_with (first
    | (go_at_call 131;refine hF.mono ?_;rintro e u ⟨rfl,rfl⟩;clear hF)
    | (refine Z2m 108 (by rfl) _ (by rfl) (Fl.mk x 0 m).cs (by rfl) (Fl.cs_one _) ?_;intro b w1 z1 z2 r1 b1
       have h1:=h.later b1
       have c1:=h1.at0 hk hn
       have f1:=h1.row.fz k))
   go_returns
   have hb:¬U b:=fun e=>by have:=h.low b e;omega
   refine⟨rfl,_,⟨_,h1.put hk r1 hb⟩,(Stp.of_below b1 U).setCell (p:=⟨g,k,none⟩) (.inl h.u) _,fun y hy=>?_⟩
   rcases hy with e | e
   · exact .inl e
   · exact .inr ⟨by rw [e];exact z1,by rw [e];simpa using z2⟩
def LiR (w:World) (l:List Int) (v:Value) (w':World):Prop:=OwV w' v l∧New w.heap.size v∧Below w.heap.size w w'
theorem LiR.app {u wr w':World} {l:List Int} {v v':Value} {y:Int} (h:LiR u l v wr) (hA:Apd wr u.heap.size 3 1 v l.length 1 (l.map (Value.int .i64)++ [.int .i64 y]) v' w'):LiR u (l++ [y]) v' w':=by
 obtain⟨o,n,b⟩:=h
 obtain⟨h1,h2,h3,h4,_⟩:=hA
 refine⟨?_,h2,((Stp.of_below b (fun _=>False)).next h4 (fun x e=> .inr (n x e))).below (Nat.le_refl _) (fun _ h=>h.elim)⟩
 unfold OwV
 simpa using h1
theorem LiR.later {u wr w':World} {l:List Int} {v:Value} (h:LiR u l v wr) (b:Below wr.heap.size wr w'):LiR u l v w':=⟨h.1.later b,h.2.1,Z00q h.2.2 b (Nat.le_refl _)⟩
theorem arr8:(Tryz.prog.info? 92).map (·.size)=some 8:=by kernel_rfl
theorem Z8c (F:Nat→Value) (w:World) {k:Nat} (hk:k < 8):(Instr.index 92 (.agg ((List.range 8).map F).toArray) (.int .i64 (k:Int))).run Tryz.prog w= .ok (F k) w:=by
 obtain rfl | rfl | rfl | rfl | rfl | rfl | rfl | rfl:k=0∨k=1∨k=2∨k=3∨k=4∨k=5∨k=6∨k=7:=by omega
 all_goals kernel_rfl
section
variable {ops : Array Oper} {rest : List Oper} {o : Oper} {a : Act} {w : World} {Q : Exit → Act → World → Prop}
theorem Z90 (hw:Region.wanted o (yielded ops a.tmps)=true) (x y:Operand) (ho:o.op= .index 92 x y) (F:Nat→Value) (k:Nat) (hk:k < 8) (hx:a.eval x= .agg ((List.range 8).map F).toArray) (hy:a.eval y= .int .i64 (k:Int))
 (h:wpList Tryz.prog ops Q rest (a.put o.dst (F k)) w):wpList Tryz.prog ops Q (o::rest) a w:=by
 refine Z0z hw _ _ ?_ h
 simp only [execOp,ho,hx,hy,Sem.run_bind,Z8c F w hk];rfl
theorem Zeo (hw:Region.wanted o (yielded ops a.tmps)=true) (x:Operand) (ho:o.op= .load 92 x) (g:Nat) (hx:a.eval x= .pointer (some ⟨g,0,none⟩)) (F:Nat→Value) (hR:Rfn w g 8 F)
 (h:wpList Tryz.prog ops Q rest (a.put o.dst (.agg ((List.range 8).map F).toArray)) w):wpList Tryz.prog ops Q (o::rest) a w:=
 Zdi 92 8 ⟨_,Tryz.underlying92,rfl⟩ arr8 hw x ho g 0 hx _ hR _ (by rw [List.drop_zero,List.take_of_length_le (by simp)]) (by simp) h
end
theorem Z35 {w:World} {U:Nat→Prop} {g:Nat} {t:FT} (h:Fd w U g t):
 Calls Tryz.prog 18 #[.pointer (some ⟨g,0,none⟩)] w fun e w'=>∃ v,e= .returned v∧LiR w (fdUs t 8) v w':=by
 obtain⟨q,h⟩:=h
 have hr:=h.row
 have hidx:=fun k (hk:k < 8)=>Z8c (pv t q) w hk
 go_enter Tryz.func18,Tryz.ntmps18
 go_wp2_with (refine Zeo (by rfl) _ (by rfl) g (by rfl) (pv t q) hr ?_)
 go_loopw [3,12] (fun v x wr=>∃ (k:Nat) (sv:Sv),k≤8∧x= .int .i64 (k:Int)∧v= .slice sv.a sv.n sv.c∧LiR w (fdUs t k) (.slice sv.a sv.n sv.c) wr) (fun _ x _=>8 - (intOf x).toNat)
 case atStart=>exact⟨0,Sv.nil,Nat.zero_le _,rfl,rfl,OwV.nil w,(fun r e=>by cases e),Below.refl _ _⟩
 case round=>
  obtain⟨k,sv,hk,rfl,rfl,I⟩:=hrel
  have hln:=Z2x t k
  have hu:w.heap.size≤wr.heap.size:=I.2.2.size
  by_cases hlt:(k:Int) < 8
  · have hk8:k < 8:=by omega
    obtain⟨l,hl⟩:∃ l,Hid (fdUs t k=l):=⟨_,rfl⟩
    rw [hl.out]at I hln
    cases ht:t k with
    | none=>
      have hL:fdUs t (k+1)=l:=by unfold fdUs;rw [hl.out,ht];simp
      have hL':Hid (fdUs t (k+1)=l):=hL
      obtain⟨pk,hpk⟩:∃ pk,Hid (pv t q k=pk):=⟨_,rfl⟩
      have hp2:pk= .pointer none:=by rw [← hpk.out,Z9i ht]
      clear hL
      go_wp2_with (refine Z90 (by rfl) _ _ (by rfl) (pv t q) k hk8 (by rfl) (by rfl) ?_;rw [hpk.out];subst hp2)
      go_roundw
      case rel=>exact⟨k+1,sv,by omega,by go_num,rfl,by rw [hL'.out];exact I⟩
      case measure=>simp [intOf];omega
    | some f=>
      have hL:fdUs t (k+1)=l++ [(k:Int)]:=by unfold fdUs;rw [hl.out,ht];simp
      have hL':Hid (fdUs t (k+1)=l++ [(k:Int)]):=hL
      obtain⟨pk,hpk⟩:∃ pk,Hid (pv t q k=pk):=⟨_,rfl⟩
      have hp2:pk= .pointer (some ⟨q k,0,none⟩):=by rw [← hpk.out,Z9j ht]
      have hbig:l.length+1≤1000000:=by omega
      clear hL
      go_wp2_with (first
       | (refine Z90 (by rfl) _ _ (by rfl) (pv t q) k hk8 (by rfl) (by rfl) ?_;rw [hpk.out];subst hp2)
       | (at_builtin;refine Z3c elI w.heap.size rfl _ _ (by rfl) (by rfl) (I.later ((Below.refl _ wr).alloc (Nat.le_refl _) _)).1 I.2.1 (some ⟨wr.heap.size,0,none⟩) 1 [.int .i64 (k:Int)] (by rfl) (by simp) (fun e=>by cases e) (fun ad e=>by injection e with e;subst e;exact cell_one_new _ _ _) (by simp [Value.oneCell']) hbig (Nat.le_trans hu (by simp)) ?_;intro v' w9 hA
          have I9:=(I.later ((Below.refl _ wr).alloc (Nat.le_refl _) _)).app hA
          obtain⟨xa,xn,xc,rfl⟩:=I9.1.shape
          clear hA))
      go_roundw
      case rel=>exact⟨k+1,⟨xa,xn,xc⟩,by omega,by go_num,rfl,by rw [hL'.out];exact I9⟩
      case measure=>simp [intOf];omega
  · have hk8:k=8:=by omega
    subst hk8
    go_wp2
    go_returns
    exact⟨_,rfl,I⟩
theorem Z6w {w:World} {U:Nat→Prop} {g:Nat} {t:FT} (h:Fd w U g t):
 Calls Tryz.prog 96 #[.pointer (some ⟨g,0,none⟩)] w fun e w'=>e= .returned (.bool (decide ((fdFr t:Int)=8)))∧w=w':=by
 have hF:=Z6v h
 obtain⟨n,hn⟩:∃ n:Nat,Hid (fdFr t=n):=⟨_,rfl⟩
 rw [hn.out]at hF ⊢
 go_enter Tryz.func96,Tryz.ntmps96
 go_wp2_with (go_at_call 131;refine hF.mono ?_;rintro e u ⟨rfl,rfl⟩;clear hF)
 go_returns
 refine⟨?_,rfl⟩
 have e:((n:Int)==8)=decide ((n:Int)=8):=by rw [Bool.eq_iff_iff];simp
 simp [e]
theorem Z4p {w:World} {U:Nat→Prop} {g:Nat} {t:FT} (h:Fd w U g t) (x:Int):
 Calls Tryz.prog 132 #[.pointer (some ⟨g,0,none⟩), .int .i64 x] w fun e w'=>e= .returned (.int .i64 (fdCt t x 8))∧Below w.heap.size w w':=by
 have hU:=Z35 h
 have hcl:=Z94 t x 8
 have hmem:=Z4q t 8
 have hln:=Z2x t 8
 generalize fdUs t 8=l at *
 obtain⟨R,hR⟩:∃ R,Hid (fdCt t x 8=R):=⟨_,rfl⟩
 rw [hR.out]at hcl ⊢
 obtain⟨q,h⟩:=h
 have hcl':Hid _:=hcl
 clear hcl hR
 have hwf:∀ y ∈ l,wfi y:=fun y hy=>by
  obtain⟨j,rfl,hj,_⟩:=hmem y hy
  exact Z22 (by omega)
 go_enter Tryz.func132,Tryz.ntmps132
 go_wp2_with (go_at_call 18;refine hU.mono ?_;rintro e w1 ⟨v,rfl,o1,n1,b1⟩
              obtain⟨⟨sa,sn,sc⟩,rfl,e1,i1, -⟩:=o1.ins hwf n1
              simp only [Sv.v]at e1 ⊢
              subst e1)
 have hc1:=fun i=>(h.later b1).fl i
 have H1:=h.later b1
 clear hU o1 n1
 go_loopw [5,11] (fun n i wr=>∃ k:Nat,k≤l.length∧i= .int .i64 (k:Int)∧∃ z:Int,n= .int .i64 z∧0≤z∧z≤k∧z+fdCl t x (l.drop k)=R∧w1=wr) (fun _ i _=>l.length - (intOf i).toNat)
 case atStart=>exact⟨0,Nat.zero_le _,rfl,0,rfl,by omega,by omega,by rw [List.drop_zero,hcl'.out];omega,rfl⟩
 case round=>
  obtain⟨k,hk,rfl,z,rfl,hz0,hz1,hz2,rfl⟩:=hrel
  have hz2':Hid _:=hz2
  clear hz2
  by_cases hkl:(k:Int) < (l.length:Int)
  · have hkl':k < l.length:=by omega
    obtain⟨bb,o,hbo,hcs⟩:=i1.i.cell (show 0 < l.length by omega)
    simp only at hbo
    subst hbo
    have ck:=hcs k hkl'
    obtain⟨j,hj,hj8,hjs⟩:=hmem (l.getD k 0) (by rw [List.getD_eq_getElem?_getD,List.getElem?_eq_getElem hkl'];exact List.getElem_mem _)
    obtain⟨f,hf⟩:=Option.isSome_iff_exists.1 hjs
    have hd:l.drop k=(j:Int)::l.drop (k+1):=by
     rw [List.drop_eq_getElem_cons hkl',← hj,List.getD_eq_getElem?_getD,List.getElem?_eq_getElem hkl'];rfl
    have hz3:=hz2'.out
    rw [hd,Z5c]at hz3
    unfold fdC1 at hz3
    rw [Int.toNat_natCast,hf]at hz3
    simp only at hz3
    rw [hj]at ck
    have c1:=H1.at1 hj8 hf
    obtain⟨u1,u2,u3⟩:=H1.fl j f hj8 hf
    have c2:=u3.cell 0 _ (show f.cs[0]? =some (.int .i64 f.i)from rfl)
    have a0:(0:Int)≤(j:Int):=by omega
    have a1:(j:Int) < 8:=by omega
    have a2:(0:Int)≤(k:Int):=by omega
    clear hd hj hf hjs hcs u1 u2 u3
    by_cases hix:f.i=x
    · rw [if_pos hix]at hz3
      have hz4:Hid _:=hz3
      obtain⟨fi,hfi⟩:∃ fi,Hid (f.i=fi):=⟨_,rfl⟩
      rw [hfi.out]at c2 hix
      subst hix
      clear hz3
      go_wp2
      go_roundw
      case rel=>exact⟨k+1,by omega,by go_num,z+1,by go_num,by omega,by omega,by have:=hz4.out;omega,by simp⟩
      case measure=>simp [intOf];omega
    · rw [if_neg hix]at hz3
      have hz4:Hid _:=hz3
      obtain⟨fi,hfi⟩:∃ fi,Hid (f.i=fi):=⟨_,rfl⟩
      rw [hfi.out]at c2 hix
      clear hz3
      go_wp2
      go_roundw
      case rel=>exact⟨k+1,by omega,by go_num,z,by go_num,by omega,by omega,by have:=hz4.out;omega,by simp⟩
      case measure=>simp [intOf];omega
  · have hk2:k=l.length:=by omega
    subst hk2
    have hz3:=hz2'.out
    rw [List.drop_length]at hz3
    simp only [fdCl]at hz3
    have hz4:Hid (z=R):=by show z=R;omega
    clear hz3
    go_wp2
    go_returns
    exact⟨by have:=hz4.out;subst this;simp,b1⟩
def fdRs (t:FT) (l:List Int):FT:=fun j=>if (j:Int) ∈ l then t j else none
theorem Zcb (t:FT):fdRs t []=Z2s:=by funext j;simp [fdRs,Z2s]
theorem Zca (t:FT) (l:List Int) (j:Nat) (f:Fl) (h:t j=some f):fdRs t (l++ [(j:Int)])=fdUp (fdRs t l) j (some f):=by
 funext x
 unfold fdRs fdUp
 by_cases e:x=j
 · subst e;simp [h]
 · simp only [List.mem_append,List.mem_singleton,if_neg e]
   by_cases e2:(x:Int) ∈ l
   · simp [e2]
   · have:¬(x:Int)=(j:Int):=by omega
     simp [e2,this]
theorem Z95 (t:FT):∀ k j:Nat,j < k→(t j).isSome=true→(j:Int) ∈ fdUs t k
 | 0,j,h,_=>by omega
 | k+1,j,h,hs=>by
   unfold fdUs
   by_cases e:j=k
   · subst e;rw [if_pos hs];simp
   · exact List.mem_append_left _ (Z95 t k j (by omega) hs)
theorem Zdy (t:FT) (j:Nat) (hj:j < 8):fdRs t (fdUs t 8) j=t j:=by
 unfold fdRs
 by_cases e:(t j).isSome=true
 · rw [if_pos (Z95 t 8 j hj e)]
 · have:t j=none:=by cases h:t j with | none=>rfl | some f=>rw [h]at e;exact absurd rfl e
   rw [this];split<;>rfl
theorem Fx.congr {w:World} {U:Nat→Prop} {g:Nat} {q:Nat→Nat} {t t':FT} (h:Fx w U g q t) (e:∀ i,i < 8→t i=t' i):Fx w U g q t':=by
 refine⟨h.u,h.low,?_,fun i f hi ht=>h.fl i f hi (by rw [e i hi];exact ht),fun i j hi hj h1 h2=>h.inj i j hi hj (by rw [e i hi];exact h1) (by rw [e j hj];exact h2)⟩
 have:(List.range 8).map (pv t' q)=(List.range 8).map (pv t q):=List.map_congr_left (fun i hi=>by unfold pv;rw [e i (List.mem_range.1 hi)])
 unfold Rfn
 rw [this];exact h.row
structure CpI (w2:World) (gc:Nat) (t:FT) (l:List Int) (k:Nat) (wr:World):Prop where
 s:Stp (fun x=>x=gc) w2 wr
 f:∃ Uc,Fd wr Uc gc (fdRs t (l.take k))∧∀ x,Uc x→x=gc∨w2.heap.size≤x
theorem Z5b {w:World} {U:Nat→Prop} {g:Nat} {t:FT} (h:Fd w U g t):
 Calls Tryz.prog 36 #[.pointer (some ⟨g,0,none⟩)] w fun e w'=>∃ g' U',e= .returned (.pointer (some ⟨g',0,none⟩))∧Fd w' U' g' t∧Below w.heap.size w w'∧∀ x,U' x→w.heap.size≤x:=by
 have hN:=Z4r w
 have hU:=fun w' (b:Below w.heap.size w w')=>Z35 (h.later b)
 have hmem:=Z4q t 8
 have hln:=Z2x t 8
 have hend:=Zdy t
 generalize fdUs t 8=l at *
 have hlow:=h.low
 have hwf:∀ y ∈ l,wfi y:=fun y hy=>by
  obtain⟨j,rfl,hj,_⟩:=hmem y hy
  exact Z22 (by omega)
 go_enter Tryz.func36,Tryz.ntmps36
 go_wp2_with (first
  | (go_at_call 24;refine hN.mono ?_;rintro e w1 ⟨gc,Uc,rfl,g1,b1,F1,L1⟩;clear hN
     have gl1:=F1.low gc F1.u)
  | (go_at_call 18;refine(hU _ b1).mono ?_;rintro e w2 ⟨v,rfl,o2,n2,b2⟩
     obtain⟨⟨sa,sn,sc⟩,rfl,e2,i2,ie2⟩:=o2.ins hwf n2
     simp only [Sv.v]at e2 ⊢
     subst e2))
 have B2:=Z00q b1 b2 (Nat.le_refl _)
 obtain⟨q,H2⟩:=h.later B2
 obtain ⟨Uc',F2,lo2⟩:∃ Uc',Fd w2 Uc' gc Z2s∧∀ x,Uc' x→x=gc∨w2.heap.size≤x:=by
  obtain⟨q',H⟩:=F1.later b2
  exact⟨fun x=>x=gc,⟨q',⟨rfl,fun x e=>H.low x (e▸F1.u),H.row,(fun i f _ e=>by cases e),(fun i j _ _ e _ _=>by cases e)⟩⟩,fun x e=> .inl e⟩
 have hs1:=b1.size
 have hs2:=b2.size
 clear hU o2 n2 F1 L1
 go_loopw [13] (fun i wr=>∃ k:Nat,k≤l.length∧i= .int .i64 (k:Int)∧CpI w2 gc t l k wr) (fun i _=>l.length - (intOf i).toNat)
 case atStart=>exact⟨0,Nat.zero_le _,rfl,Stp.refl _ _,Uc',by rw [List.take_zero,Zcb];exact F2,lo2⟩
 case round=>
  obtain⟨k,hk,rfl,I⟩:=hrel
  clear F2 lo2
  by_cases hkl:(k:Int) < (l.length:Int)
  · have hkl':k < l.length:=by omega
    obtain⟨bb,o,hbo,hcs⟩:=i2.i.cell (show 0 < l.length by omega)
    simp only at hbo
    subst hbo
    have hbb:=ie2 ⟨bb,o,none⟩ rfl
    have ck:=I.s.cell (hcs k hkl') (fun e=>by have e:bb=gc:=e;have:=(hbb (show 0 < l.length by omega)).1;simp only at this;omega)
    obtain⟨j,hj,hj8,hjs⟩:=hmem (l.getD k 0) (by rw [List.getD_eq_getElem?_getD,List.getElem?_eq_getElem hkl'];exact List.getElem_mem _)
    obtain⟨f,hf⟩:=Option.isSome_iff_exists.1 hjs
    have ht1:l.take (k+1)=l.take k++ [(j:Int)]:=by
     rw [List.take_add_one,List.getElem?_eq_getElem hkl',← hj,List.getD_eq_getElem?_getD,List.getElem?_eq_getElem hkl'];rfl
    have hR:Hid (fdRs t (l.take (k+1))=fdUp (fdRs t (l.take k)) j (some f)):=by
     show _=_;rw [ht1];exact Zca t _ j f hf
    rw [hj]at ck
    have hUne:∀ x,U x→¬x=gc:=fun x hx e=>by have:=hlow x hx;omega
    have Hr:=H2.step I.s hUne
    have c1:=Hr.at1 hj8 hf
    obtain⟨u1,u2,u3⟩:=Hr.fl j f hj8 hf
    have a0:(0:Int)≤(j:Int):=by omega
    have a1:(j:Int) < 8:=by omega
    have a2:(0:Int)≤(k:Int):=by omega
    obtain⟨s,Uc,⟨qc,Fc⟩,lo⟩:=I
    have hs3:=s.size
    have hlc:=Fc.low
    clear ht1 hj hf hjs hcs Hr u1 u2 i2
    go_wp2_with (first
     | (refine Z4n (by rfl) _ (by rfl) (q j) (by rfl) f u3 ?_)
     | (refine Z0x (by rfl) (by rfl) ?_;intro b w5 z1 z2 r5 b5)
     | (refine Z10 (by rfl) _ _ (by rfl) b (by rfl) f (by rfl) _ r5 rfl ?_;intro w6 r6 s6
        have B6:Below wr.heap.size wr w6:=((Stp.of_below b5 (fun _=>False)).next s6 (fun x e=> .inr (by omega))).below (Nat.le_refl _) (fun _ h=>h.elim)
        have F6:=Fc.later B6
        have d1:=F6.row.cell hj8
        have d2:=F6.row.fz j))
    have hb:¬Uc b:=fun e=>by have:=hlc b e;omega
    have F7:=F6.put hj8 r6 hb
    go_roundw
    case rel=>
     refine⟨k+1,by omega,by go_num,?_,_,⟨_,by rw [hR.out];exact F7⟩,fun x hx=>?_⟩
     · exact(s.next (Stp.of_below B6 (fun _=>False)) (fun x e=>e.elim)).setCell (p:=⟨gc,j,none⟩) (.inl rfl) _
     · rcases hx with e | e
       · exact lo x e
       · exact .inr (by omega)
    case measure=>simp [intOf];omega
  · have hk2:k=l.length:=by omega
    subst hk2
    obtain⟨s,Uc,⟨qc,Fc⟩,lo⟩:=I
    rw [List.take_length]at Fc
    go_wp2
    go_returns
    refine⟨gc,rfl,Uc,⟨qc,Fc.congr hend⟩,((Stp.of_below B2 (fun x=>x=gc)).trans s).below (Nat.le_refl _) (fun x e=>by omega),fun x hx=>?_⟩
    rcases lo x hx with e | e<;>omega
def tV (x:List UInt8):Value:= .string (str x)
structure Sts (w:World) (a:Option Addr) (n c:Nat) (l:List (List UInt8)):Prop where
 len:l.length=n
 le:n≤c
 cap:c≤maxLen
 nil:a=none→c=0
 cell:0 < n→∃ b o,a=some ⟨b,o,none⟩∧∀ i,i < n→w.cell? ⟨b,o+i,none⟩=some (.string (str (l.getD i [])))
section
variable {w w' : World} {a : Option Addr} {n c : Nat} {l : List (List UInt8)} {F : Nat → Prop}
theorem Sts.nilSlice (w:World):Sts w none 0 0 []:=⟨rfl,Nat.le_refl _,by decide,fun _=>rfl,fun h=>absurd h (by omega)⟩
theorem Sts.step (h:Sts w a n c l) (k:Stp F w w') (hF:∀ x:Addr,0 < n→a=some x→¬F x.block):Sts w' a n c l:=
 ⟨h.len,h.le,h.cap,h.nil,fun hn=>by obtain⟨b,o,rfl,hc⟩:=h.cell hn;exact⟨b,o,rfl,fun i hi=>k.cell (hc i hi) (hF ⟨b,o,none⟩ hn rfl)⟩⟩
theorem Sts.later (h:Sts w a n c l) (k:Below w.heap.size w w'):Sts w' a n c l:=h.step (Stp.of_below k (fun _=>False)) (fun _ _ _=>id)
theorem Sts.take (h:Sts w a n c l) (k:Nat) (hk:k≤n):Sts w a k c (l.take k):=by
 have hl:=h.len
 refine⟨by simp;omega,Nat.le_trans hk h.le,h.cap,h.nil,fun hk0=>?_⟩
 obtain⟨b,o,e,hc⟩:=h.cell (by omega)
 refine⟨b,o,e,fun i hi=>?_⟩
 rw [hc i (by omega),List.getD_eq_getElem?_getD,List.getD_eq_getElem?_getD,List.getElem?_take,if_pos hi]
theorem Sts.zero (h:Sts w a n c l) (e:a=none):n=0∧c=0∧l= []:=by
 have h1:=h.nil e
 have h2:=h.le
 have h3:=h.len
 exact⟨by omega,h1,List.eq_nil_of_length_eq_zero (by omega)⟩
theorem Sts.news (h:Sts w a n c l):∀ ad,a=some ad→∀ j u,(l.map tV)[j]? =some u→w.cell? (ad.add j)=some u:=fun ad e j u hu=>by
 have hj:=(List.getElem?_eq_some_iff.1 hu).1
 rw [List.length_map]at hj
 have hl:=h.len
 obtain⟨b,o,e1,hc⟩:=h.cell (by omega)
 rw [e]at e1;injection e1 with e1;subst e1
 rw [Addr.add_lit,hc j (by omega),← hu,List.getElem?_map,List.getElem?_eq_getElem hj,List.getD_eq_getElem?_getD,List.getElem?_eq_getElem hj];rfl
theorem Zfy (l:List (List UInt8)):∀ u ∈ l.map tV,u.oneCell'=true:=fun u hu=>by obtain⟨x,_,rfl⟩:=List.mem_map.1 hu;rfl
end
theorem elT:ElT 30 9 1:=⟨by kernel_rfl,⟨.string ByteArray.empty,16,by kernel_rfl,rfl,by omega⟩,by omega⟩
structure OwT (B:Nat) (w:World) (v:Value) (l:List (List UInt8)):Prop where
 ro:w.ownsRow 0 9 1 v l.length (l.map tV)
 nw:New B v
section
variable {B : Nat} {w w' : World} {v : Value} {l : List (List UInt8)} {F : Nat → Prop}
theorem OwT.none (w:World):OwT B w (.slice none 0 0) []:=⟨⟨rfl, .inl ⟨rfl,rfl⟩⟩,fun r e=>by cases e⟩
theorem OwT.made (w:World) (hB:B≤w.heap.size):OwT B (w.alloc (.cells #[] 9)) (.slice (some ⟨w.heap.size,0,Option.none⟩) 0 0) []:=
 ⟨World.ownsRow_made w #[] 0 (Nat.zero_le _) (Nat.zero_le _) rfl,fun r e=>by
   have:w.heap.size=r:=by simpa [Value.ownBlock]using e
   omega⟩
theorem OwT.later (h:OwT B w v l) (k:Below w.heap.size w w'):OwT B w' v l:=⟨Z61 h.ro k,h.nw⟩
theorem OwT.shape (h:OwT B w v l):∃ a c,v= .slice a l.length c∧Sts w a l.length c l∧∀ x:Addr,a=some x→B≤x.block:=by
 have h0:=h.ro
 rcases h.ro.2 with⟨rfl,h2⟩ | ⟨g,cap,cur,rfl,_,h3,h4,h5,h6,h7⟩
 · obtain rfl:l= []:=List.eq_nil_of_length_eq_zero h2
   exact⟨Option.none,0,rfl,Sts.nilSlice w,fun x e=>by cases e⟩
 · refine⟨_,cap,rfl,⟨rfl,h4,h5,(fun e=>by cases e),fun hn=>⟨g,0,rfl,fun i hi=>?_⟩⟩,fun x e=>by injection e with e;subst e;exact h.nw g rfl⟩
   rw [Nat.zero_add,cell_of_row w g i _ _ (0,0) h3]
   have h1:(cur.toList.take (l.length * 1))[i]? =(l.map tV)[i]?:=by rw [h7]
   rw [Nat.mul_one,List.getElem?_take,if_pos hi,List.getElem?_map,List.getElem?_eq_getElem hi]at h1
   rw [List.getD_eq_getElem?_getD,List.getElem?_eq_getElem hi]
   simpa [tV]using h1
end
theorem Z6l (x:List UInt8) (w:World):(Instr.buildSlice 30 1 #[(0, .string (str x))]).run Tryz.prog w= .ok (.slice (some ⟨w.heap.size,0,none⟩) 1 1) (w.alloc (.cells #[.string (str x)] 9)):=by kernel_rfl
theorem Zc6 (w:World):(Instr.buildSlice 30 0 #[]).run Tryz.prog w= .ok (.slice (some ⟨w.heap.size,0,none⟩) 0 0) (w.alloc (.cells #[] 9)):=by kernel_rfl
theorem Zek (w:World) (x:List UInt8):Sts (w.alloc (.cells #[.string (str x)] 9)) (some ⟨w.heap.size,0,none⟩) 1 1 [x]:=by
 refine⟨rfl,Nat.le_refl _,by decide,(fun e=>by cases e),fun _=>⟨_,0,rfl,fun i hi=>?_⟩⟩
 obtain rfl:i=0:=by omega
 simp
section
variable {ops : Array Oper} {rest : List Oper} {o : Oper} {a : Act} {w : World} {Q : Exit → Act → World → Prop} {B : Nat} {v : Value} {l l2 : List (List UInt8)}
theorem Z65 (hw:Region.wanted o (yielded ops a.tmps)=true) (x:Operand) (ho:o.op= .buildSlice 30 1 #[(0,x)]) (y:List UInt8) (hx:a.eval x= .string (str y))
 (h:∀ g w',w.heap.size≤g→Sts w' (some ⟨g,0,none⟩) 1 1 [y]→Below w.heap.size w w'→wpList Tryz.prog ops Q rest (a.put o.dst (.slice (some ⟨g,0,none⟩) 1 1)) w'):wpList Tryz.prog ops Q (o::rest) a w:=by
 refine Z0z hw _ _ ?_ (h w.heap.size _ (Nat.le_refl _) (Zek w y) ((Below.refl _ _).alloc (Nat.le_refl _) _))
 simp [execOp,ho,hx,Z6l]
theorem Z8z (hw:Region.wanted o (yielded ops a.tmps)=true) (ho:o.op= .buildSlice 30 0 #[]) (hB:B≤w.heap.size)
 (h:∀ g w',OwT B w' (.slice (some ⟨g,0,none⟩) 0 0) []→Below w.heap.size w w'→wpList Tryz.prog ops Q rest (a.put o.dst (.slice (some ⟨g,0,none⟩) 0 0)) w'):wpList Tryz.prog ops Q (o::rest) a w:=by
 refine Z0z hw _ _ ?_ (h w.heap.size _ (OwT.made w hB) ((Below.refl _ _).alloc (Nat.le_refl _) _))
 simp [execOp,ho,Zc6]
theorem Zg1 {w':World} {v':Value} (hA:Apd w B 9 1 v l.length l2.length (l.map tV++l2.map tV) v' w') (h0:OwT B w v l):OwT B w' v' (l++l2)∧Stp (fun x=>B≤x) w w':=by
 obtain⟨h1,h2,h3,h4,h5⟩:=hA
 refine⟨⟨?_,h2⟩,h4.mono (fun x e=> .inl (h0.nw x e))⟩
 rw [List.length_append,List.map_append];exact h1
theorem Z5g (B:Nat) (hgd:o.guard=none) (s x:Operand) (ho:o.op= .call { callee:= .builtin .append,args:=#[s,x],argTypes:=#[30,30]}) (hs:a.eval s=v) (h0:OwT B w v l)
 (xa:Option Addr) (m c:Nat) (hx:a.eval x= .slice xa m c) (h2:Sts w xa m c l2) (hbig:l.length+m≤1000000) (hB:B≤w.heap.size)
 (h:∀ v' w',OwT B w' v' (l++l2)→Stp (fun x=>B≤x) w w'→wpList Tryz.prog ops Q rest (a.put o.dst v') w'):wpList Tryz.prog ops Q (o::rest) a w:=by
 have e:=h2.len
 subst e
 refine Z3c elT B hgd s x ho hs h0.ro h0.nw xa c (l2.map tV) hx (by simp) (fun e=>⟨(h2.zero e).1,(h2.zero e).2.1⟩) h2.news (Zfy l2) hbig hB ?_
 intro v' w' hA
 obtain⟨h3,h4⟩:=Zg1 hA h0
 exact h v' w' h3 h4
end
end Go.Proofs.YtdnjddpfcgginaaGreat
