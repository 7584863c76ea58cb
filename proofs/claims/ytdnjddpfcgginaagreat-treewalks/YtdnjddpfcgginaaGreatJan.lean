/-
  Texts of my own, joined: no statement is proved here.
-/
import Derived.Laws.OwnMore
import Derived.Laws.AppendOwn
import Derived.Test.YtdnjddpfcgginaaGreatJai
set_option linter.unusedSimpArgs false
set_option linter.unusedVariables false
namespace Go.Proofs.YtdnjddpfcgginaaGreat
open Go.ChangeShapes Go.WideShapes Go.ChangeAt Go.RowKit
theorem Z9t (F:Nat→Value) {n o:Nat} (h:o+3≤n) (a b c:Value):((List.range n).map F).take o++ [a,b,c]++((List.range n).map F).drop (o+3)=(List.range n).map (fun j=>if j=o then a else if j=o+1 then b else if j=o+2 then c else F j):=by
 apply List.ext_getElem?
 intro i
 have hl:(((List.range n).map F).take o).length=o:=by simp;omega
 by_cases h1:i < o
 · rw [List.append_assoc,List.getElem?_append_left (by omega),List.getElem?_take,if_pos h1,Z21 F (by omega),Z21 _ (by omega),if_neg (by omega),if_neg (by omega),if_neg (by omega)]
 · by_cases h2:i < o+3
   · rw [List.append_assoc,List.getElem?_append_right (by omega),hl,List.getElem?_append_left (by simp;omega),Z21 _ (by omega)]
     obtain rfl | rfl | rfl:i=o∨i=o+1∨i=o+2:=by omega
     · simp
     · simp
     · simp
   · rw [List.getElem?_append_right (by simp;omega)]
     have hl2:(((List.range n).map F).take o++ [a,b,c]).length=o+3:=by simp;omega
     rw [hl2,List.getElem?_drop]
     by_cases h3:i < n
     · rw [Z21 F (by omega),Z21 _ h3,if_neg (by omega),if_neg (by omega),if_neg (by omega)]
       congr 2;omega
     · rw [List.getElem?_eq_none (by simp;omega),List.getElem?_eq_none (by simp;omega)]
theorem Rfn.three {w:World} {g n:Nat} {F:Nat→Value} (h:Rfn w g n F) (o:Nat) (f:Fl) (ho:o+3≤n):Rfn (w.setCells g o f.cs) g n (fun j=>if j=o then .int .i64 f.i else if j=o+1 then .int .i64 f.p else if j=o+2 then .int .i64 f.m else F j):=by
 have:=Cs.setCells h o f.cs (by simp [Fl.cs];omega) f.cs_one
 have e:f.cs.length=3:=rfl
 rw [e]at this
 unfold Rfn
 rw [← Z9t F ho]
 exact this
def Rd (w:World) (y:Nat) (t:FT):Prop:=∃ F,Rfn w y 32 F∧(∀ i,i < 8→F i= .bool (t i).isSome)∧∀ i f,i < 8→t i=some f→F (8+i * 3)= .int .i64 f.i∧F (8+i * 3+1)= .int .i64 f.p∧F (8+i * 3+2)= .int .i64 f.m
section
variable {w w' : World} {y : Nat} {t : FT} {U : Nat → Prop}
theorem Rd.lt (h:Rd w y t):y < w.heap.size:=by obtain⟨F,h,_⟩:=h;exact h.lt
theorem Rd.step (h:Rd w y t) (k:Stp U w w') (hy:¬U y):Rd w' y t:=by obtain⟨F,h1,h2,h3⟩:=h;exact⟨F,h1.step k hy,h2,h3⟩
theorem Rd.later (h:Rd w y t) (k:Below w.heap.size w w'):Rd w' y t:=h.step (Stp.of_below k (fun _=>False)) id
theorem Rd.in (h:Rd w y t) {i:Nat} (hi:i < 8):w.cell? ⟨y,i,none⟩=some (.bool (t i).isSome):=by obtain⟨F,h1,h2,h3⟩:=h;rw [h1.cell (by omega),h2 i hi]
theorem Rd.fz (h:Rd w y t) (i:Nat):w.frozen? ⟨y,i,none⟩=false:=by obtain⟨F,h1,h2,h3⟩:=h;exact h1.fz i
theorem Rd.c0 (h:Rd w y t) {i:Nat} {f:Fl} (hi:i < 8) (ht:t i=some f):w.cell? ⟨y,8+i * 3,none⟩=some (.int .i64 f.i):=by obtain⟨F,h1,h2,h3⟩:=h;rw [h1.cell (by omega),(h3 i f hi ht).1]
theorem Rd.c1 (h:Rd w y t) {i:Nat} {f:Fl} (hi:i < 8) (ht:t i=some f):w.cell? ⟨y,8+i * 3+1,none⟩=some (.int .i64 f.p):=by obtain⟨F,h1,h2,h3⟩:=h;rw [h1.cell (by omega),(h3 i f hi ht).2.1]
theorem Rd.c2 (h:Rd w y t) {i:Nat} {f:Fl} (hi:i < 8) (ht:t i=some f):w.cell? ⟨y,8+i * 3+2,none⟩=some (.int .i64 f.m):=by obtain⟨F,h1,h2,h3⟩:=h;rw [h1.cell (by omega),(h3 i f hi ht).2.2]
theorem Rd.range (h:Rd w y t) {i:Nat} {f:Fl} (hi:i < 8) (ht:t i=some f):w.rangeAt y (8+i * 3) f.cs:=fun j v hv=>by
 unfold Fl.cs at hv
 match j,hv with
 | 0,hv=>simp at hv;subst hv;exact h.c0 hi ht
 | 1,hv=>simp at hv;subst hv;exact h.c1 hi ht
 | 2,hv=>simp at hv;subst hv;exact h.c2 hi ht
 | j+3,hv=>simp at hv
theorem Rd.free (h:Rd w y t) {i:Nat} (hi:i < 8):Rd (w.setCell ⟨y,i,none⟩ (.bool false)) y (fdUp t i none):=by
 obtain⟨F,h1,h2,h3⟩:=h
 refine⟨_,h1.set i _ rfl,fun j hj=>?_,fun j f hj ht=>?_⟩
 · unfold fdUp
   by_cases e:j=i
   · simp [e]
   · simp [e,h2 j hj]
 · unfold fdUp at ht
   by_cases e:j=i
   · rw [if_pos e]at ht;cases ht
   · rw [if_neg e]at ht
     rw [if_neg (by omega),if_neg (by omega),if_neg (by omega)]
     exact h3 j f hj ht
theorem Rd.pos (h:Rd w y t) {i:Nat} {f:Fl} (hi:i < 8) (ht:t i=some f) (p:Int):Rd (w.setCell ⟨y,8+i * 3+1,none⟩ (.int .i64 p)) y (fdUp t i (some ⟨f.i,p,f.m⟩)):=by
 obtain⟨F,h1,h2,h3⟩:=h
 refine⟨_,h1.set _ _ rfl,fun j hj=>?_,fun j f' hj ht'=>?_⟩
 · rw [if_neg (by omega),h2 j hj]
   unfold fdUp
   by_cases e:j=i
   · subst e;simp [ht]
   · simp [e]
 · unfold fdUp at ht'
   by_cases e:j=i
   · subst e
     rw [if_pos rfl]at ht'
     injection ht' with ht';subst ht'
     obtain⟨a1,a2,a3⟩:=h3 j f hj ht
     rw [if_neg (by omega),if_pos rfl,if_neg (by omega)]
     exact⟨a1,rfl,a3⟩
   · rw [if_neg e]at ht'
     rw [if_neg (by omega),if_neg (by omega),if_neg (by omega)]
     exact h3 j f' hj ht'
theorem Rd.put (h:Rd w y t) {i:Nat} (hi:i < 8) (f:Fl):Rd ((w.setCell ⟨y,i,none⟩ (.bool true)).setCells y (8+i * 3) f.cs) y (fdUp t i (some f))∧Rd ((w.setCells y (8+i * 3) f.cs).setCell ⟨y,i,none⟩ (.bool true)) y (fdUp t i (some f)):=by
 obtain⟨F,h1,h2,h3⟩:=h
 constructor
 · refine⟨_,(h1.set i _ rfl).three (8+i * 3) f (by omega),fun j hj=>?_,fun j f' hj ht'=>?_⟩
   · rw [if_neg (by omega),if_neg (by omega),if_neg (by omega)]
     unfold fdUp
     by_cases e:j=i
     · simp [e]
     · simp [e,h2 j hj]
   · unfold fdUp at ht'
     by_cases e:j=i
     · subst e
       rw [if_pos rfl]at ht'
       injection ht' with ht';subst ht'
       refine⟨by rw [if_pos rfl],by rw [if_neg (by omega),if_pos rfl],by rw [if_neg (by omega),if_neg (by omega),if_pos rfl]⟩
     · rw [if_neg e]at ht'
       obtain⟨a1,a2,a3⟩:=h3 j f' hj ht'
       refine⟨?_,?_,?_⟩
       · rw [if_neg (by omega),if_neg (by omega),if_neg (by omega),if_neg (by omega)];exact a1
       · rw [if_neg (by omega),if_neg (by omega),if_neg (by omega),if_neg (by omega)];exact a2
       · rw [if_neg (by omega),if_neg (by omega),if_neg (by omega),if_neg (by omega)];exact a3
 · refine⟨_,(h1.three (8+i * 3) f (by omega)).set i _ rfl,fun j hj=>?_,fun j f' hj ht'=>?_⟩
   · unfold fdUp
     by_cases e:j=i
     · simp [e]
     · rw [if_neg e,if_neg (by omega),if_neg (by omega),if_neg (by omega),h2 j hj,if_neg e]
   · unfold fdUp at ht'
     by_cases e:j=i
     · subst e
       rw [if_pos rfl]at ht'
       injection ht' with ht';subst ht'
       refine⟨by rw [if_neg (by omega),if_pos rfl],by rw [if_neg (by omega),if_neg (by omega),if_pos rfl],by rw [if_neg (by omega),if_neg (by omega),if_neg (by omega),if_pos rfl]⟩
     · rw [if_neg e]at ht'
       obtain⟨a1,a2,a3⟩:=h3 j f' hj ht'
       refine⟨?_,?_,?_⟩
       · rw [if_neg (by omega),if_neg (by omega),if_neg (by omega),if_neg (by omega)];exact a1
       · rw [if_neg (by omega),if_neg (by omega),if_neg (by omega),if_neg (by omega)];exact a2
       · rw [if_neg (by omega),if_neg (by omega),if_neg (by omega),if_neg (by omega)];exact a3
end
def rdZ:List Value:=List.replicate 8 (Value.bool false)++List.replicate 24 (Value.int .i64 0)
theorem Rd.made (w:World) (T:TypeId):Rd (w.alloc (.cells rdZ.toArray T)) w.heap.size Z3l:=by
 refine⟨fun i=>if i < 8 then .bool false else .int .i64 0,?_,fun i hi=>by simp [hi,Z3l],fun i f _ h=>by cases h⟩
 have:(List.range 32).map (fun i=>if i < 8 then Value.bool false else .int .i64 0)=rdZ:=rfl
 unfold Rfn
 rw [this]
 exact Cs.made w _ T (fun v hv=>by unfold rdZ at hv;rcases List.mem_append.1 hv with h | h<;>(rw [(List.mem_replicate.1 h).2];rfl))
theorem Zaz (w:World):
 Calls Tryz.prog 26 #[] w fun e w'=>∃ y,e= .returned (.pointer (some ⟨y,0,none⟩))∧w.heap.size≤y∧Below w.heap.size w w'∧Rd w' y Z3l:=by
 have hz:∀ u:World,(Instr.build 100 #[]).run Tryz.prog u= .ok (.agg rdZ.toArray) u:=fun u=>by kernel_rfl
 go_enter Tryz.func26,Tryz.ntmps26
 go_wp2
 go_returns
 exact⟨_,rfl,Nat.le_refl _,by go_grown,Rd.made w _⟩
theorem Z2g:Srt 97 3 Fl.zero.cs:=
 ⟨⟨_,Tryz.underlying97,rfl⟩,by kernel_rfl,fun w=>(zero_of_info (v:= .agg Fl.zero.cs.toArray) (n:=3) (by kernel_rfl)).1 w,rfl,Fl.zero.cs_one⟩
section
variable {ops : Array Oper} {rest : List Oper} {o : Oper} {a : Act} {w : World} {Q : Exit → Act → World → Prop}
theorem Z1v (hw:Region.wanted o (yielded ops a.tmps)=true) (ho:o.op= .alloc 97)
 (h:∀ g w',w.heap.size≤g→g < w'.heap.size→Cs w' g Fl.zero.cs→Below w.heap.size w w'→wpList Tryz.prog ops Q rest (a.put o.dst (.pointer (some ⟨g,0,none⟩))) w'):wpList Tryz.prog ops Q (o::rest) a w:=
 Z1o 97 3 _ Z2g hw ho h
theorem Z7i (hw:Region.wanted o (yielded ops a.tmps)=true) (y:Operand) (ho:o.op= .load 97 y) (g:Nat) (hx:a.eval y= .pointer (some ⟨g,0,none⟩)) (f:Fl) (hR:Cs w g f.cs)
 (h:wpList Tryz.prog ops Q rest (a.put o.dst (.agg f.cs.toArray)) w):wpList Tryz.prog ops Q (o::rest) a w:=
 Z0k 97 3 _ Z2g hw y ho g hx f.cs hR rfl h
theorem Z1w (hw:Region.wanted o (yielded ops a.tmps)=true) (y z:Operand) (ho:o.op= .store 97 y z) (g:Nat) (hx:a.eval y= .pointer (some ⟨g,0,none⟩)) (f:Fl) (hy:a.eval z= .agg f.cs.toArray) (cs:List Value) (hR:Cs w g cs) (hl:cs.length=3)
 (h:∀ w',Cs w' g f.cs→Stp (fun x=>x=g) w w'→wpList Tryz.prog ops Q rest (a.put o.dst undef) w'):wpList Tryz.prog ops Q (o::rest) a w:=
 Z1g 97 3 _ Z2g hw y z ho g hx f.cs hy rfl f.cs_one cs hR hl h
theorem Zd2 (hw:Region.wanted o (yielded ops a.tmps)=true) (x:Operand) (ho:o.op= .load 97 x) (y i:Nat) (hx:a.eval x= .pointer (some ⟨y,8+i * 3,none⟩)) (f:Fl) (hr:w.rangeAt y (8+i * 3) f.cs)
 (h:wpList Tryz.prog ops Q rest (a.put o.dst (.agg f.cs.toArray)) w):wpList Tryz.prog ops Q (o::rest) a w:=by
 refine Z11 hw _ _ ?_ h
 obtain⟨d,h1,h2⟩:=Z2g.und
 have:(loadVar 97 ⟨y,8+i * 3,none⟩).run Tryz.prog w= .ok (.agg f.cs.toArray) w:=run_loadVar_mid w y _ _ f.cs _ hr h1 h2 (by rw [Z2g.size];simp [Fl.cs])
 simp [execOp,ho,hx,Instr.loadAt,Instr.sureAddr,this]
end
theorem Z0l {w:World} {y:Nat} {t:FT} (h:Rd w y t) (x:Int):
 Calls Tryz.prog 70 #[.pointer (some ⟨y,0,none⟩), .int .i64 x] w fun e w'=>e= .returned (.tuple #[.agg (Z01 t x).cs.toArray, .int .i64 (Z04 t x)])∧Below w.heap.size w w':=by
 cases hh:Z0u t x with
 | none=>
   have e1:Z01 t x=Fl.zero:=by unfold Z01;rw [hh];rfl
   have e2:Z04 t x=46:=by unfold Z04;rw [hh];rfl
   rw [e1,e2]
   clear e1 e2
   by_cases h1:x < 0
   · go_enter Tryz.func70,Tryz.ntmps70
     go_wp2_with (first
      | (refine Z1v (by rfl) (by rfl) ?_;intro g1 w1 a1 a2 r1 b1)
      | (refine Z1w (by rfl) _ _ (by rfl) g1 (by rfl) Fl.zero (by rfl) _ r1 rfl ?_;intro w2 r2 s2))
     exact bodyPost_ret (Z0d Z2g Tryz.results70 rfl rfl r2 rfl) rfl ⟨rfl,((Stp.of_below b1 (fun _=>False)).next s2 (fun x e=> .inr (by omega))).below (Nat.le_refl _) (fun _ h=>h.elim)⟩
   · by_cases h2:x > 7
     · have h3:¬x < 0:=h1
       go_enter Tryz.func70,Tryz.ntmps70
       go_wp2_with (first
        | (refine Z1v (by rfl) (by rfl) ?_;intro g1 w1 a1 a2 r1 b1)
        | (refine Z1w (by rfl) _ _ (by rfl) g1 (by rfl) Fl.zero (by rfl) _ r1 rfl ?_;intro w2 r2 s2))
       exact bodyPost_ret (Z0d Z2g Tryz.results70 rfl rfl r2 rfl) rfl ⟨rfl,((Stp.of_below b1 (fun _=>False)).next s2 (fun x e=> .inr (by omega))).below (Nat.le_refl _) (fun _ h=>h.elim)⟩
     · obtain⟨k,rfl⟩:∃ k:Nat,x=(k:Int):=⟨x.toNat,by omega⟩
       have hk:k < 8:=by omega
       rw [Z29 hk]at hh
       have a0:(0:Int)≤(k:Int):=by omega
       have a1:(k:Int) < 8:=by omega
       have a2:¬(7:Int) < (k:Int):=by omega
       have a3:¬(k:Int) < 0:=by omega
       clear h1 h2
       go_enter Tryz.func70,Tryz.ntmps70
       go_wp2_with (first
        | (refine Z1v (by rfl) (by rfl) ?_;intro g1 w1 z1 z2 r1 b1
           have c0:=(h.later b1).in hk
           rw [hh]at c0
           simp only [Option.isSome_none]at c0)
        | (refine Z1w (by rfl) _ _ (by rfl) g1 (by rfl) Fl.zero (by rfl) _ r1 rfl ?_;intro w2 r2 s2))
       exact bodyPost_ret (Z0d Z2g Tryz.results70 rfl rfl r2 rfl) rfl ⟨rfl,((Stp.of_below b1 (fun _=>False)).next s2 (fun x e=> .inr (by omega))).below (Nat.le_refl _) (fun _ h=>h.elim)⟩
 | some f=>
   obtain ⟨k,hk,rfl⟩:∃ k:Nat,k < 8∧x=(k:Int):=by
    unfold Z0u at hh
    split at hh
    · exact⟨x.toNat,by omega,by omega⟩
    · cases hh
   have e1:Z01 t (k:Int)=f:=by unfold Z01;rw [hh];rfl
   have e2:Z04 t (k:Int)=0:=by unfold Z04;rw [hh];rfl
   rw [e1,e2]
   rw [Z29 hk]at hh
   have a0:(0:Int)≤(k:Int):=by omega
   have a1:(k:Int) < 8:=by omega
   have a2:¬(7:Int) < (k:Int):=by omega
   have a3:¬(k:Int) < 0:=by omega
   clear e1 e2
   go_enter Tryz.func70,Tryz.ntmps70
   go_wp2_with (first
    | (refine Z1v (by rfl) (by rfl) ?_;intro g1 w1 z1 z2 r1 b1
       have c0:=(h.later b1).in hk
       have cr:=(h.later b1).range hk hh
       rw [hh]at c0
       simp only [Option.isSome_some]at c0)
    | (refine Zd2 (by rfl) _ (by rfl) y k (by rfl) f cr ?_)
    | (refine Z1w (by rfl) _ _ (by rfl) g1 (by rfl) f (by rfl) _ r1 rfl ?_;intro w2 r2 s2))
   exact bodyPost_ret (Z0d Z2g Tryz.results70 rfl rfl r2 rfl) rfl ⟨rfl,((Stp.of_below b1 (fun _=>False)).next s2 (fun x e=> .inr (by omega))).below (Nat.le_refl _) (fun _ h=>h.elim)⟩
theorem Z8t {w:World} {y:Nat} {t:FT} (h:Rd w y t) (x:Int):
 Calls Tryz.prog 71 #[.pointer (some ⟨y,0,none⟩), .int .i64 x] w fun e w'=>e= .returned (.tuple #[.agg (Z01 t x).cs.toArray, .int .i64 (Z04 t x)])∧Rd w' y (Z13 t x)∧Stp (fun z=>z=y) w w':=by
 have hG:=fun w' (b:Below w.heap.size w w')=>Z0l (h.later b) x
 have hy:=h.lt
 cases hh:Z0u t x with
 | none=>
   have e1:Z01 t x=Fl.zero:=by unfold Z01;rw [hh];rfl
   have e2:Z04 t x=46:=by unfold Z04;rw [hh];rfl
   have e3:Z13 t x=t:=by unfold Z13;rw [hh]
   rw [e1,e2,e3]
   rw [e1,e2]at hG
   clear e1 e2 e3
   have tk:Hid True:=trivial
   go_enter Tryz.func71,Tryz.ntmps71
   go_wp2_with (first
    | (clear tk;refine Z1v (by rfl) (by rfl) ?_;intro g1 w1 a1 a2 r1 b1)
    | (go_at_call 70;refine(hG _ b1).mono ?_;rintro e w2 ⟨rfl,b2⟩;clear hG)
    | (refine Z1v (by rfl) (by rfl) ?_;intro g3 w3 a3 a4 r3 b3)
    | (refine Z1w (by rfl) _ _ (by rfl) g3 (by rfl) Fl.zero (by rfl) _ r3 rfl ?_;intro w4 r4 s4
       have r5:=((r1.later b2).later b3).step s4 (fun e=>by have e:g1=g3:=e;have:=b2.size;omega))
    | (refine Z7i (by rfl) _ (by rfl) g3 (by rfl) _ r4 ?_)
    | (refine Z1w (by rfl) _ _ (by rfl) g1 (by rfl) Fl.zero (by rfl) _ r5 rfl ?_;intro w6 r6 s6))
   have hz2:=b2.size
   have B:Below w.heap.size w w6:=(((Stp.of_below (Z00q (Z00q b1 b2 (Nat.le_refl _)) b3 (Nat.le_refl _)) (fun _=>False)).next s4 (fun x e=> .inr (by omega))).next s6 (fun x e=> .inr (by omega))).below (Nat.le_refl _) (fun _ h=>h.elim)
   exact bodyPost_ret (Z0d Z2g Tryz.results71 rfl rfl r6 rfl) rfl ⟨rfl,h.later B,Stp.of_below B _⟩
 | some f=>
   obtain ⟨k,hk,rfl⟩:∃ k:Nat,k < 8∧x=(k:Int):=by
    unfold Z0u at hh
    split at hh
    · exact⟨x.toNat,by omega,by omega⟩
    · cases hh
   have e1:Z01 t (k:Int)=f:=by unfold Z01;rw [hh];rfl
   have e2:Z04 t (k:Int)=0:=by unfold Z04;rw [hh];rfl
   have e3:Z13 t (k:Int)=fdUp t k none:=by unfold Z13;rw [hh];simp
   rw [e1,e2,e3]
   rw [e1,e2]at hG
   rw [Z29 hk]at hh
   have a0:(0:Int)≤(k:Int):=by omega
   have a1:(k:Int) < 8:=by omega
   clear e1 e2 e3
   have tk:Hid True:=trivial
   go_enter Tryz.func71,Tryz.ntmps71
   go_wp2_with (first
    | (clear tk;refine Z1v (by rfl) (by rfl) ?_;intro g1 w1 q1 q2 r1 b1)
    | (go_at_call 70;refine(hG _ b1).mono ?_;rintro e w2 ⟨rfl,b2⟩;clear hG)
    | (refine Z1v (by rfl) (by rfl) ?_;intro g3 w3 q3 q4 r3 b3)
    | (refine Z1w (by rfl) _ _ (by rfl) g3 (by rfl) f (by rfl) _ r3 rfl ?_;intro w4 r4 s4
       have hz2:=b2.size
       have B4:Below w.heap.size w w4:=((Stp.of_below (Z00q (Z00q b1 b2 (Nat.le_refl _)) b3 (Nat.le_refl _)) (fun _=>False)).next s4 (fun x e=> .inr (by omega))).below (Nat.le_refl _) (fun _ h=>h.elim)
       have R4:=h.later B4
       have c4:=R4.in hk
       have f4:=R4.fz k
       have s5:Stp (fun z=>z=y) w4 (w4.setCell ⟨y,k,none⟩ (.bool false)):=(Stp.refl (fun z=>z=y) w4).setCell (p:=⟨y,k,none⟩) (.inl rfl) _
       have r4':=r4.step s5 (fun e=>by have e:g3=y:=e;omega)
       have r5:=(((r1.later b2).later b3).step s4 (fun e=>by have e:g1=g3:=e;omega)).step s5 (fun e=>by have e:g1=y:=e;omega))
    | (refine Z7i (by rfl) _ (by rfl) g3 (by rfl) _ r4' ?_)
    | (refine Z1w (by rfl) _ _ (by rfl) g1 (by rfl) f (by rfl) _ r5 rfl ?_;intro w6 r6 s6))
   refine bodyPost_ret (Z0d Z2g Tryz.results71 rfl rfl r6 rfl) rfl ⟨rfl,(R4.free hk).step s6 (fun e=>by have e:y=g1:=e;omega),?_⟩
   exact((Stp.of_below B4 _).trans s5).next s6 (fun x e=> .inr (by omega))
theorem Z4w {w:World} {y:Nat} {t:FT} (h:Rd w y t) (x p:Int):
 Calls Tryz.prog 73 #[.pointer (some ⟨y,0,none⟩), .int .i64 x, .int .i64 p] w fun e w'=>e= .returned (.int .i64 (Z0w t x p))∧Rd w' y (Z0f t x p)∧Stp (fun z=>z=y) w w':=by
 have hG:=Z0l h x
 have hy:=h.lt
 cases hh:Z0u t x with
 | none=>
   have e1:Z01 t x=Fl.zero:=by unfold Z01;rw [hh];rfl
   have e4:Z04 t x=46:=by unfold Z04;rw [hh];rfl
   have e2:Z0w t x p=46:=by unfold Z0w;rw [hh];rfl
   have e3:Z0f t x p=t:=by unfold Z0f;rw [hh]
   rw [e2,e3]
   rw [e1,e4]at hG
   clear e1 e2 e3 e4
   go_enter Tryz.func73,Tryz.ntmps73
   go_wp2_with (first
    | (go_at_call 70;refine hG.mono ?_;rintro e w2 ⟨rfl,b2⟩;clear hG)
    | (refine Z1v (by rfl) (by rfl) ?_;intro g3 w3 a3 a4 r3 b3)
    | (refine Z1w (by rfl) _ _ (by rfl) g3 (by rfl) Fl.zero (by rfl) _ r3 rfl ?_;intro w4 r4 s4))
   go_returns
   have hz2:=b2.size
   have B:Below w.heap.size w w4:=((Stp.of_below (Z00q b2 b3 (Nat.le_refl _)) (fun _=>False)).next s4 (fun x e=> .inr (by omega))).below (Nat.le_refl _) (fun _ h=>h.elim)
   exact⟨rfl,h.later B,Stp.of_below B _⟩
 | some f=>
   obtain ⟨k,hk,rfl⟩:∃ k:Nat,k < 8∧x=(k:Int):=by
    unfold Z0u at hh
    split at hh
    · exact⟨x.toNat,by omega,by omega⟩
    · cases hh
   have e1:Z01 t (k:Int)=f:=by unfold Z01;rw [hh];rfl
   have e4:Z04 t (k:Int)=0:=by unfold Z04;rw [hh];rfl
   rw [e1,e4]at hG
   by_cases hp:p < 0
   · have e2:Z0w t (k:Int) p=2:=by unfold Z0w;rw [hh];simp [hp]
     have e3:Z0f t (k:Int) p=t:=by unfold Z0f;rw [hh];simp [hp]
     rw [e2,e3]
     clear e1 e2 e3 e4 hh
     go_enter Tryz.func73,Tryz.ntmps73
     go_wp2_with (first
      | (go_at_call 70;refine hG.mono ?_;rintro e w2 ⟨rfl,b2⟩;clear hG)
      | (refine Z1v (by rfl) (by rfl) ?_;intro g3 w3 a3 a4 r3 b3)
      | (refine Z1w (by rfl) _ _ (by rfl) g3 (by rfl) f (by rfl) _ r3 rfl ?_;intro w4 r4 s4))
     go_returns
     have hz2:=b2.size
     have B:Below w.heap.size w w4:=((Stp.of_below (Z00q b2 b3 (Nat.le_refl _)) (fun _=>False)).next s4 (fun x e=> .inr (by omega))).below (Nat.le_refl _) (fun _ h=>h.elim)
     exact⟨rfl,h.later B,Stp.of_below B _⟩
   · have e2:Z0w t (k:Int) p=0:=by unfold Z0w;rw [hh];simp [hp]
     have e3:Z0f t (k:Int) p=fdUp t k (some ⟨f.i,p,f.m⟩):=by unfold Z0f;rw [hh];simp [hp]
     rw [e2,e3]
     rw [Z29 hk]at hh
     have a0:(0:Int)≤(k:Int):=by omega
     have a1:(k:Int) < 8:=by omega
     clear e1 e2 e3 e4
     go_enter Tryz.func73,Tryz.ntmps73
     go_wp2_with (first
      | (go_at_call 70;refine hG.mono ?_;rintro e w2 ⟨rfl,b2⟩;clear hG)
      | (refine Z1v (by rfl) (by rfl) ?_;intro g3 w3 a3 a4 r3 b3)
      | (refine Z1w (by rfl) _ _ (by rfl) g3 (by rfl) f (by rfl) _ r3 rfl ?_;intro w4 r4 s4
         have hz2:=b2.size
         have B4:Below w.heap.size w w4:=((Stp.of_below (Z00q b2 b3 (Nat.le_refl _)) (fun _=>False)).next s4 (fun x e=> .inr (by omega))).below (Nat.le_refl _) (fun _ h=>h.elim)
         have R4:=h.later B4
         have c4:=R4.c1 hk hh
         have f4:=R4.fz (8+k * 3+1)))
     go_returns
     exact⟨rfl,R4.pos hk hh p,(Stp.of_below B4 (fun z=>z=y)).setCell (p:=⟨y,8+k * 3+1,none⟩) (.inl rfl) _⟩
theorem Z8u {w:World} {y:Nat} {t:FT} (h:Rd w y t) (x:Int):
 Calls Tryz.prog 110 #[.pointer (some ⟨y,0,none⟩), .int .i64 x] w fun e w'=>e= .returned (.int .i64 (fdCt t x 8))∧w=w':=by
 go_enter Tryz.func110,Tryz.ntmps110
 go_wp2
 go_loopw [5,6] (fun n i wr=>∃ k:Nat,k≤8∧i= .int .i64 (k:Int)∧∃ z:Int,n= .int .i64 z∧Hid (z=fdCt t x k)∧0≤z∧z≤k∧w=wr) (fun _ i _=>8 - (intOf i).toNat)
 case atStart=>exact⟨0,Nat.zero_le _,rfl,0,rfl,rfl,by omega,by omega,rfl⟩
 case round=>
  obtain⟨k,hk,rfl,z,rfl,hz,hz0,hz1,rfl⟩:=hrel
  by_cases hlt:(k:Int) < 8
  · have hk8:k < 8:=by omega
    have a0:(0:Int)≤(k:Int):=by omega
    have c0:=h.in hk8
    have hst:fdCt t x (k+1)=z+(match t k with | some f=>if f.i=x then 1 else 0 | none=>0):=by rw [hz.out];rfl
    cases ht:t k with
    | none=>
      rw [ht]at c0 hst
      simp only [Option.isSome_none]at c0
      have hst':Hid (z=fdCt t x (k+1)):=by show _=_;rw [hst];simp
      clear hst
      go_wp2
      go_roundw
      case rel=>exact⟨k+1,by omega,by go_num,z,rfl,hst',hz0,by omega,by simp⟩
      case measure=>simp [intOf];omega
    | some f=>
      have c1:=h.c0 hk8 ht
      rw [ht]at c0 hst
      simp only [Option.isSome_some]at c0
      by_cases hix:f.i=x
      · have hst':Hid (z+1=fdCt t x (k+1)):=by show _=_;rw [hst];simp [hix]
        rw [hix]at c1
        clear hst hix
        go_wp2
        go_roundw
        case rel=>exact⟨k+1,by omega,by go_num,z+1,by go_num,hst',by omega,by omega,by simp⟩
        case measure=>simp [intOf];omega
      · have hst':Hid (z=fdCt t x (k+1)):=by show _=_;rw [hst];simp [hix]
        clear hst
        go_wp2
        go_roundw
        case rel=>exact⟨k+1,by omega,by go_num,z,by go_num,hst',by omega,by omega,by simp⟩
        case measure=>simp [intOf];omega
  · have hk8:k=8:=by omega
    subst hk8
    go_wp2
    go_returns
    exact⟨by rw [← hz.out];simp,rfl⟩
theorem Zav (w:World):OwV (w.alloc (.cells #[] 3)) (.slice (some ⟨w.heap.size,0,none⟩) 0 0) []:=
 Rw1.own (l:= []) (cur:=#[]) ⟨heap_alloc_new w _,Nat.le_refl _,by decide,rfl,rfl⟩
theorem Za0 {w:World} {y:Nat} {t:FT} (h:Rd w y t):
 Calls Tryz.prog 19 #[.pointer (some ⟨y,0,none⟩)] w fun e w'=>∃ v,e= .returned v∧LiR w (fdUs t 8) v w':=by
 go_enter Tryz.func19,Tryz.ntmps19
 go_wp2_with fail
 go_loopw [3,4] (fun v x wr=>∃ (k:Nat) (sv:Sv),k≤8∧x= .int .i64 (k:Int)∧v= .slice sv.a sv.n sv.c∧LiR w (fdUs t k) (.slice sv.a sv.n sv.c) wr) (fun _ x _=>8 - (intOf x).toNat)
 case atStart=>exact⟨0,⟨some ⟨w.heap.size,0,none⟩,0,0⟩,Nat.zero_le _,rfl,rfl,Zav w,(fun r e=>Nat.le_of_eq (by simpa [Value.ownBlock]using e)),(Below.refl _ _).alloc (Nat.le_refl _) _⟩
 case round=>
  obtain⟨k,sv,hk,rfl,rfl,I⟩:=hrel
  have hln:=Z3t t k
  have hu:w.heap.size≤wr.heap.size:=I.2.2.size
  by_cases hlt:(k:Int) < 8
  · have hk8:k < 8:=by omega
    have a0:(0:Int)≤(k:Int):=by omega
    have c0:=(h.later I.2.2).in hk8
    obtain⟨l,hl⟩:∃ l,Hid (fdUs t k=l):=⟨_,rfl⟩
    rw [hl.out]at I hln
    cases ht:t k with
    | none=>
      have hL':Hid (fdUs t (k+1)=l):=by show _=_;unfold fdUs;rw [hl.out,ht];simp
      rw [ht]at c0
      simp only [Option.isSome_none]at c0
      go_wp2
      go_roundw
      case rel=>exact⟨k+1,sv,by omega,by go_num,rfl,by rw [hL'.out];exact I⟩
      case measure=>simp [intOf];omega
    | some f=>
      have hL':Hid (fdUs t (k+1)=l++ [(k:Int)]):=by show _=_;unfold fdUs;rw [hl.out,ht];simp
      rw [ht]at c0
      simp only [Option.isSome_some]at c0
      have hbig:l.length+1≤1000000:=by omega
      go_wp2_with (first
       | (at_builtin;refine Z39 elI w.heap.size rfl _ _ (by rfl) (by rfl) (I.later ((Below.refl _ wr).alloc (Nat.le_refl _) _)).1 I.2.1 (some ⟨wr.heap.size,0,none⟩) 1 [.int .i64 (k:Int)] (by rfl) (by simp) (fun e=>by cases e) (fun ad e=>by injection e with e;subst e;exact cell_one_new _ _ _) (by simp [Value.oneCell']) hbig (Nat.le_trans hu (by simp)) ?_;intro v' w9 hA
          have I9:=(I.later ((Below.refl _ wr).alloc (Nat.le_refl _) _)).app hA
          obtain⟨xa,xn,xc,rfl⟩:=I9.1.shape
          clear hA))
      go_roundw
      case rel=>exact⟨k+1,⟨xa,xn,xc⟩,by omega,by go_num,rfl,by rw [hL'.out];exact I9⟩
      case measure=>simp [intOf];omega
  · have hk8:k=8:=by omega
    subst hk8
    go_wp2
    go_returns
    exact⟨_,rfl,I⟩
set_option maxRecDepth 100000
theorem Z6f {w:World} {y k:Nat} {b:Bool} {c:Value} (h:w.cell? ⟨y,k,none⟩=some c) (hf:w.frozen? ⟨y,k,none⟩=false):(storeVar 4 ⟨y,k,none⟩ (.bool b)).run Tryz.prog w= .ok () (w.setCell ⟨y,k,none⟩ (.bool b)):=by
 go_simp
theorem Z8g {w:World} {y o:Nat} {F:Nat→Value} (h:Rfn w y 32 F) (ho:o+3≤32) (f:Fl):(storeVar 97 ⟨y,o,none⟩ (.agg f.cs.toArray)).run Tryz.prog w= .ok () (w.setCells y o f.cs):=
 run_storeVar_mid w y o _ f.cs.toArray (fun j hj=>by
  have hj3:j < 3:=hj
  exact⟨by rw [h.cell (by omega)];rfl,h.fz _⟩) (by rw [Z2g.size];rfl) (all_oneCell_toArray f.cs_one)
set_option maxHeartbeats 1000000 in
theorem Z69 {w:World} {y:Nat} {t:FT} (h:Rd w y t) (x m:Int):
 Calls Tryz.prog 69 #[.pointer (some ⟨y,0,none⟩), .int .i64 x, .int .i64 m] w fun e w'=>e= .returned (.tuple #[.int .i64 (Z16 t), .int .i64 (Z19 t)])∧Rd w' y (Z0g t x m)∧Stp (fun z=>z=y) w w':=by
 go_enter Tryz.func69,Tryz.ntmps69
 go_wp2
 go_loopw [8] (fun i wr=>∃ k:Nat,k≤8∧i= .int .i64 (k:Int)∧w=wr∧∀ i,i < k→(t i).isSome=true) (fun i _=>8 - (intOf i).toNat)
 case atStart=>exact⟨0,Nat.zero_le _,rfl,rfl,fun i hi=>by omega⟩
 case round=>
  obtain⟨k,hk,rfl,rfl,hs⟩:=hrel
  by_cases hlt:(k:Int) < 8
  · have hk8:k < 8:=by omega
    have a0:(0:Int)≤(k:Int):=by omega
    have c0:=h.in hk8
    cases ht:t k with
    | none=>
      have hfr:fdFr t=k:=Z4d (by omega) hs (.inr ht)
      have e1:Z16 t=(k:Int):=by unfold Z16;rw [if_neg (by omega),hfr]
      have e2:Z19 t=0:=by unfold Z19;rw [if_neg (by omega)]
      have e3:Z0g t x m=fdUp t k (some ⟨x,0,m⟩):=by unfold Z0g;rw [if_neg (by omega),hfr]
      have E:Hid (Z16 t=(k:Int)∧Z19 t=0∧Z0g t x m=fdUp t k (some ⟨x,0,m⟩)):=⟨e1,e2,e3⟩
      rw [ht]at c0
      simp only [Option.isSome_none]at c0
      have f0:=h.fz k
      clear hfr e1 e2 e3 hs
      have Hd:Rd w.drew y t:=h.later ((Below.refl _ w).drew)
      have hp:=Hd.put hk8 ⟨x,0,m⟩
      obtain⟨F,hF, -⟩:=id Hd
      have g1:=Hd.in hk8
      have g2:=Hd.fz k
      have R1:=hF.set k (.bool true) rfl
      have R2:=hF.three (8+k * 3) ⟨x,0,m⟩ (by omega)
      have g3:=R2.cell (i:=k) (by omega)
      have g4:=R2.fz k
      go_wp2_with fail
      refine wp_region_held_drew (S:=fun _=>True) (by kernel_rfl) trivial (fun hHeld=>?_)
      refine tl 0 (.pointer (some ⟨y,0,none⟩)) rfl ?_
      try simp only [z]
      refine tl 1 (.int .i64 (k:Int)) rfl ?_
      try simp only [z]
      refine tl 2 (.pointer (some ⟨y,0,none⟩)) rfl ?_
      try simp only [z]
      refine tl 3 (.int .i64 (k:Int)) rfl ?_
      try simp only [z]
      refine tl 4 (.int .i64 x) rfl ?_
      try simp only [z]
      refine tl 5 (.int .i64 m) rfl ?_
      try simp only [z]
      refine tl 6 (.agg #[.int .i64 x, .int .i64 0, .int .i64 m]) rfl ?_
      try simp only [z]
      refine tl 7 (.pointer (some ⟨y,0,none⟩)) rfl ?_
      try simp only [z]
      refine tl 8 (.pointer (some ⟨y,0,none⟩)) rfl ?_
      try simp only [z]
      refine tl 9 (.pointer (some ⟨y,k,none⟩)) rfl ?_
      try simp only [z]
      refine tl 11 (.pointer (some ⟨y,0,none⟩)) rfl ?_
      try simp only [z]
      refine tl 12 (.pointer (some ⟨y,8,none⟩)) rfl ?_
      try simp only [z]
      refine rd 10 rfl (fun K hK=>?_)
      first
      | refine Z5k 4 ⟨y,k,none⟩ (.bool true) _ rfl _ _ rfl (by rfl) (by rfl) (Z6f g1 g2) ?_
      | refine Z5k 4 ⟨y,k,none⟩ (.bool true) _ rfl _ _ rfl (by rfl) (by rfl) (Z6f g3 g4) ?_
      refine hK.out _ _ (trivial) (fun hHeld=>?_)
      clear hK K
      try simp only [Act.put]
      refine tl 13 (.pointer (some ⟨y,8+k * 3,none⟩)) rfl ?_
      try simp only [z]
      refine rd 14 rfl (fun K hK=>?_)
      first
      | refine Z5k 97 ⟨y,8+k * 3,none⟩ (.agg (Fl.mk x 0 m).cs.toArray) _ rfl _ _ rfl (by rfl) (by rfl) (Z8g R1 (by omega) _) ?_
      | refine Z5k 97 ⟨y,8+k * 3,none⟩ (.agg (Fl.mk x 0 m).cs.toArray) _ rfl _ _ rfl (by rfl) (by rfl) (Z8g hF (by omega) _) ?_
      refine hK.out _ _ (trivial) (fun hHeld=>?_)
      clear hK K
      try simp only [Act.put]
      refine wpAnyH_done (by kernel_rfl) ?_ _
      all_goals
       go_wp2
       go_returns
       obtain⟨e1,e2,e3⟩:=E.out
       rw [e1,e2,e3]
       refine⟨by simp,?_,?_⟩
       · first | exact hp.1 | exact hp.2
       · first | exact((Stp.refl (fun z=>z=y) w).drew.setCell (p:=⟨y,k,none⟩) (.inl rfl) _).trans (Z37 _ _ _ _) | exact((Stp.refl (fun z=>z=y) w).drew.trans (Z37 _ _ _ _)).setCell (p:=⟨y,k,none⟩) (.inl rfl) _
    | some f=>
      rw [ht]at c0
      simp only [Option.isSome_some]at c0
      have hs':∀ i,i < k+1→(t i).isSome=true:=fun i hi=>by
       by_cases e:i=k
       · subst e;rw [ht];rfl
       · exact hs i (by omega)
      clear hs
      go_wp2
      go_roundw
      case rel=>exact⟨k+1,by omega,by go_num,by simp,hs'⟩
      case measure=>simp [intOf];omega
  · have hk8:k=8:=by omega
    subst hk8
    have hfr:fdFr t=8:=Z4d (Nat.le_refl _) hs (.inl rfl)
    have e1:Z16 t=0:=by unfold Z16;rw [if_pos hfr]
    have e2:Z19 t=47:=by unfold Z19;rw [if_pos hfr]
    have e3:Z0g t x m=t:=by unfold Z0g;rw [if_pos hfr]
    have E:Hid (Z16 t=0∧Z19 t=47∧Z0g t x m=t):=⟨e1,e2,e3⟩
    clear hfr e1 e2 e3 hs
    go_wp2
    go_returns
    obtain⟨e1,e2,e3⟩:=E.out
    rw [e1,e2,e3]
    exact⟨by simp,h,Stp.refl _ _⟩
set_option maxRecDepth 100000
structure EsS (w:World) (s:Sv) (l:List Ent):Prop where
 len:l.length=s.n
 le:s.n≤s.c
 cap:s.c≤maxLen
 cell:0 < s.n→∃ b,s.a=some ⟨b,0,none⟩∧∀ i,i < s.n→w.cell? ⟨b,i * 2,none⟩=some (.int .i64 (l.getD i Ent.zero).n)∧w.cell? ⟨b,i * 2+1,none⟩=some (.string (str (l.getD i Ent.zero).s))
section
variable {w w' : World} {s : Sv} {l : List Ent} {E F : Nat → Prop}
theorem EsS.nil (w:World):EsS w Sv.nil []:=⟨rfl,Nat.le_refl _,by decide,fun h=>absurd h (by decide)⟩
theorem EsS.step (h:EsS w s l) (k:Stp F w w') (he:InE E s) (hE:∀ x,E x→¬F x):EsS w' s l:=
 ⟨h.len,h.le,h.cap,fun hn=>by
   obtain⟨b,e,hc⟩:=h.cell hn
   have hb:=hE b (he _ e hn)
   exact⟨b,e,fun i hi=>⟨k.cell (hc i hi).1 hb,k.cell (hc i hi).2 hb⟩⟩⟩
theorem EsS.later (h:EsS w s l) (k:Below w.heap.size w w'):EsS w' s l:=h.step (E:=fun _=>True) (Stp.of_below k (fun _=>False)) (fun _ _ _=>trivial) (fun _ _=>id)
end
def flE (l:List Ent):List Value:=l.flatMap fun e=> [.int .i64 e.n, .string (str e.s)]
theorem Z97:∀ (l:List Ent) (i:Nat),i < l.length→(flE l)[i * 2]? =some (.int .i64 (l.getD i Ent.zero).n)∧(flE l)[i * 2+1]? =some (.string (str (l.getD i Ent.zero).s))
 | [],i,h=>by simp at h
 | a::r,0,h=>by unfold flE;simp
 | a::r,i+1,h=>by
   have:=Z97 r i (by simpa using h)
   unfold flE at *
   rw [List.flatMap_cons]
   constructor
   · rw [List.getElem?_append_right (by simp;omega)]
     have e:(i+1) * 2 - [Value.int .i64 a.n, .string (str a.s)].length=i * 2:=by simp;omega
     rw [e,this.1];simp
   · rw [List.getElem?_append_right (by simp;omega)]
     have e:(i+1) * 2+1 - [Value.int .i64 a.n, .string (str a.s)].length=i * 2+1:=by simp;omega
     rw [e,this.2];simp
theorem Z96 (a b:List Ent):flE (a++b)=flE a++flE b:=by unfold flE;simp
def OwE' (w:World) (v:Value) (l:List Ent):Prop:=w.ownsRow 0 66 2 v l.length (flE l)
theorem elEn:ElT 46 66 2:=⟨by kernel_rfl,⟨.agg #[.int .i64 0, .string (str [])],24,by kernel_rfl,rfl,by omega⟩,by omega⟩
theorem OwE'.es {w:World} {v:Value} {l:List Ent} {B:Nat} (h:OwE' w v l) (hN:New B v):∃ s:Sv,v=s.v∧s.n=l.length∧EsS w s l∧InE (fun x=>B≤x∧x < w.heap.size) s:=by
 have hlt:=h.lt
 have hcs:=fun g hg=>World.ownsRow.cells h (g:=g) hg
 rcases h.2 with⟨rfl,h2⟩ | ⟨g,cap,cur,rfl,_,hg,hle,hm,hs,ht⟩
 · obtain rfl:l= []:=List.eq_nil_of_length_eq_zero h2
   exact⟨Sv.nil,rfl,rfl,EsS.nil w,InE.nil _⟩
 · refine⟨⟨some ⟨g,0,none⟩,l.length,cap⟩,rfl,rfl,⟨rfl,hle,hm,fun hn=>⟨g,rfl,fun i hi=>?_⟩⟩,fun ad e hn=>?_⟩
   · have hi':i < l.length:=hi
     have h1:=Z97 l i hi'
     have c1:=hcs g rfl _ _ h1.1
     have c2:=hcs g rfl _ _ h1.2
     rw [Addr.add_lit,Nat.zero_add]at c1 c2
     exact⟨c1,c2⟩
   · injection e with e;subst e;exact⟨hN g rfl,(hlt g rfl).2⟩
def Nr (w:World) (r c n:Nat) (F:Nat→Value):Prop:=w.ownsRow 0 76 4 (.slice (some ⟨r,0,none⟩) n c) n ((List.range (n * 4)).map F)
theorem elNd:ElT 39 76 4:=⟨by kernel_rfl,⟨.agg #[.int .i64 0, .int .i64 0, .slice none 0 0, .slice none 0 0],64,by kernel_rfl,rfl,by omega⟩,by omega⟩
section
variable {w w' : World} {r c n : Nat} {F : Nat → Value} {G : Nat → Prop}
theorem Nr.lt (h:Nr w r c n F):r < w.heap.size:=(World.ownsRow.lt h r rfl).2
theorem Nr.step (h:Nr w r c n F) (k:Stp G w w') (hr:¬G r):Nr w' r c n F:=Z4j h k (fun x hx=>by
 have e:r=x:=by simpa [Value.ownBlock]using hx
 rw [← e];exact hr)
theorem Nr.cell (h:Nr w r c n F) {i:Nat} (hi:i < n * 4):w.cell? ⟨r,i,none⟩=some (F i):=by
 have:=World.ownsRow.cells h (g:=r) rfl i (F i) (Z21 F hi)
 rw [Addr.add_lit,Nat.zero_add]at this;exact this
theorem Nr.frozen (h:Nr w r c n F) (i:Nat):w.frozen? ⟨r,i,none⟩=false:=World.ownsRow.frozenAt h i
theorem Nr.set (h:Nr w r c n F) (i:Nat) (v:Value):Nr (w.setCell ⟨r,i,none⟩ v) r c n (fun j=>if j=i then v else F j):=by
 have:=(World.ownsRow.stored h i v).1
 rw [Z80]at this;exact this
end
structure Dw (w:World) (y fb r c:Nat) (A:Nat→Prop) (F:Nat→Value) (sd sn:Nat→Sv) (Z:Tz):Prop where
 tr:Cs w y [.slice (some ⟨r,0,none⟩) Z.N.length c, .pointer (some ⟨fb,0,none⟩)]
 row:Nr w r c Z.N.length F
 fd:Rd w fb Z.t
 n1:y≠fb
 n2:y≠r
 n3:fb≠r
 nA:∀ x,A x→x≠y∧x≠fb∧x≠r∧x < w.heap.size
 cel:∀ i,i < Z.N.length→F (i * 4)= .int .i64 (Z.N.getD i Nd.zero).k∧F (i * 4+1)= .int .i64 (Z.N.getD i Nd.zero).ln∧F (i * 4+2)=(sd i).v∧F (i * 4+3)=(sn i).v
 dt:∀ i,i < Z.N.length→BsS w (sd i) (Z.N.getD i Nd.zero).d∧InE A (sd i)
 nm:∀ i,i < Z.N.length→EsS w (sn i) (Z.N.getD i Nd.zero).nm∧InE A (sn i)
section
variable {w w' : World} {y fb r c r' c' : Nat} {A A' G : Nat → Prop} {F F' : Nat → Value} {sd sn sd' sn' : Nat → Sv} {Z : Tz}
theorem Dw.step (h:Dw w y fb r c A F sd sn Z) (k:Stp G w w') (g1:¬G y) (g2:¬G fb) (g3:¬G r) (g4:∀ x,A x→¬G x):Dw w' y fb r c A F sd sn Z:=
 ⟨h.tr.step k g1,h.row.step k g3,h.fd.step k g2,h.n1,h.n2,h.n3,fun x hx=>by obtain⟨a,b,d,e⟩:=h.nA x hx;exact⟨a,b,d,Nat.lt_of_lt_of_le e k.size⟩,h.cel,fun i hi=>⟨(h.dt i hi).1.step k (h.dt i hi).2 g4,(h.dt i hi).2⟩,fun i hi=>⟨(h.nm i hi).1.step k (h.nm i hi).2 g4,(h.nm i hi).2⟩⟩
theorem Dw.later (h:Dw w y fb r c A F sd sn Z) (k:Below w.heap.size w w'):Dw w' y fb r c A F sd sn Z:=h.step (Stp.of_below k (fun _=>False)) id id id (fun _ _=>id)
theorem Dw.more (h:Dw w y fb r c A F sd sn Z) (hA:∀ x,A x→A' x) (n:∀ x,A' x→x≠y∧x≠fb∧x≠r∧x < w.heap.size):Dw w y fb r c A' F sd sn Z:=
 ⟨h.tr,h.row,h.fd,h.n1,h.n2,h.n3,n,h.cel,fun i hi=>⟨(h.dt i hi).1,(h.dt i hi).2.mono hA⟩,fun i hi=>⟨(h.nm i hi).1,(h.nm i hi).2.mono hA⟩⟩
theorem Dw.up (h:Dw w y fb r c A F sd sn Z) {i:Nat} (hi:i < Z.N.length) (x:Nd) (s1 s2:Sv) (k:Stp (fun z=>z=r) w w') (hR:Nr w' r c Z.N.length F')
 (e0:∀ j,j < Z.N.length→j≠i→∀ t,t < 4→F' (j * 4+t)=F (j * 4+t)) (e1:F' (i * 4)= .int .i64 x.k∧F' (i * 4+1)= .int .i64 x.ln∧F' (i * 4+2)=s1.v∧F' (i * 4+3)=s2.v)
 (hd:BsS w s1 x.d∧InE A s1) (hn:EsS w s2 x.nm∧InE A s2):
 Dw w' y fb r c A F' (fun j=>if j=i then s1 else sd j) (fun j=>if j=i then s2 else sn j) ⟨Z.N.set i x,Z.t⟩:=by
 have g4:∀ z,A z→¬z=r:=fun z hz=>(h.nA z hz).2.2.1
 have N:∀ j,j < Z.N.length→(Z.N.set i x).getD j Nd.zero=if j=i then x else Z.N.getD j Nd.zero:=fun j hj=>by
  by_cases e:j=i
  · subst e;rw [if_pos rfl,List.getD_eq_getElem?_getD,List.getElem?_set_self hj];rfl
  · rw [if_neg e,List.getD_eq_getElem?_getD,List.getElem?_set_ne (fun c=>e c.symm),List.getD_eq_getElem?_getD]
 have hl:(Z.N.set i x).length=Z.N.length:=by simp
 refine⟨?_,?_,h.fd.step k h.n3,h.n1,h.n2,h.n3,fun z hz=>by obtain⟨a,b,d,e⟩:=h.nA z hz;exact⟨a,b,d,Nat.lt_of_lt_of_le e k.size⟩,fun j hj=>?_,fun j hj=>?_,fun j hj=>?_⟩
 · show Cs w' y [.slice (some ⟨r,0,none⟩) (Z.N.set i x).length c,_]
   rw [hl];exact h.tr.step k h.n2
 · show Nr w' r c (Z.N.set i x).length F'
   rw [hl];exact hR
 · have hj':j < Z.N.length:=by rw [← hl];exact hj
   show F' (j * 4)= .int .i64 ((Z.N.set i x).getD j Nd.zero).k∧F' (j * 4+1)= .int .i64 ((Z.N.set i x).getD j Nd.zero).ln∧_
   rw [N j hj']
   by_cases e:j=i
   · subst e;simp only [if_true];exact e1
   · simp only [if_neg e]
     obtain⟨q0,q1,q2,q3⟩:=h.cel j hj'
     exact⟨(e0 j hj' e 0 (by omega)).trans q0,(e0 j hj' e 1 (by omega)).trans q1,(e0 j hj' e 2 (by omega)).trans q2,(e0 j hj' e 3 (by omega)).trans q3⟩
 · have hj':j < Z.N.length:=by rw [← hl];exact hj
   show BsS w' _ ((Z.N.set i x).getD j Nd.zero).d∧_
   rw [N j hj']
   by_cases e:j=i
   · subst e;simp only [if_true];exact⟨hd.1.step k hd.2 g4,hd.2⟩
   · simp only [if_neg e];exact⟨(h.dt j hj').1.step k (h.dt j hj').2 g4,(h.dt j hj').2⟩
 · have hj':j < Z.N.length:=by rw [← hl];exact hj
   show EsS w' _ ((Z.N.set i x).getD j Nd.zero).nm∧_
   rw [N j hj']
   by_cases e:j=i
   · subst e;simp only [if_true];exact⟨hn.1.step k hn.2 g4,hn.2⟩
   · simp only [if_neg e];exact⟨(h.nm j hj').1.step k (h.nm j hj').2 g4,(h.nm j hj').2⟩
theorem Dw.set1 (h:Dw w y fb r c A F sd sn Z) {i:Nat} (hi:i < Z.N.length) (v:Int):Dw (w.setCell ⟨r,i * 4+1,none⟩ (.int .i64 v)) y fb r c A (fun j=>if j=i * 4+1 then .int .i64 v else F j) (fun j=>if j=i then sd i else sd j) (fun j=>if j=i then sn i else sn j) ⟨Z.N.set i ⟨(Z.N.getD i Nd.zero).k,v,(Z.N.getD i Nd.zero).d,(Z.N.getD i Nd.zero).nm⟩,Z.t⟩:=by
 obtain⟨q0,q1,q2,q3⟩:=h.cel i hi
 refine h.up hi _ (sd i) (sn i) ((Stp.refl (fun z=>z=r) w).setCell (p:=⟨r,i * 4+1,none⟩) (.inl rfl) _) (h.row.set _ _) (fun j hj e t ht=>by(try dsimp only);rw [if_neg (by omega)]) ⟨?_,?_,?_,?_⟩ (h.dt i hi) (h.nm i hi)
 · (try dsimp only);rw [if_neg (by omega)];exact q0
 · simp
 · (try dsimp only);rw [if_neg (by omega)];exact q2
 · (try dsimp only);rw [if_neg (by omega)];exact q3
theorem Dw.set2 (h:Dw w y fb r c A F sd sn Z) {i:Nat} (hi:i < Z.N.length) {s:Sv} {d:List Int} (hs:BsS w s d∧InE A s):Dw (w.setCell ⟨r,i * 4+2,none⟩ s.v) y fb r c A (fun j=>if j=i * 4+2 then s.v else F j) (fun j=>if j=i then s else sd j) (fun j=>if j=i then sn i else sn j) ⟨Z.N.set i ⟨(Z.N.getD i Nd.zero).k,(Z.N.getD i Nd.zero).ln,d,(Z.N.getD i Nd.zero).nm⟩,Z.t⟩:=by
 obtain⟨q0,q1,q2,q3⟩:=h.cel i hi
 refine h.up hi _ s (sn i) ((Stp.refl (fun z=>z=r) w).setCell (p:=⟨r,i * 4+2,none⟩) (.inl rfl) _) (h.row.set _ _) (fun j hj e t ht=>by(try dsimp only);rw [if_neg (by omega)]) ⟨?_,?_,?_,?_⟩ hs (h.nm i hi)
 · (try dsimp only);rw [if_neg (by omega)];exact q0
 · (try dsimp only);rw [if_neg (by omega)];exact q1
 · simp
 · (try dsimp only);rw [if_neg (by omega)];exact q3
theorem Dw.set3 (h:Dw w y fb r c A F sd sn Z) {i:Nat} (hi:i < Z.N.length) {s:Sv} {l:List Ent} (hs:EsS w s l∧InE A s):Dw (w.setCell ⟨r,i * 4+3,none⟩ s.v) y fb r c A (fun j=>if j=i * 4+3 then s.v else F j) (fun j=>if j=i then sd i else sd j) (fun j=>if j=i then s else sn j) ⟨Z.N.set i ⟨(Z.N.getD i Nd.zero).k,(Z.N.getD i Nd.zero).ln,(Z.N.getD i Nd.zero).d,l⟩,Z.t⟩:=by
 obtain⟨q0,q1,q2,q3⟩:=h.cel i hi
 refine h.up hi _ (sd i) s ((Stp.refl (fun z=>z=r) w).setCell (p:=⟨r,i * 4+3,none⟩) (.inl rfl) _) (h.row.set _ _) (fun j hj e t ht=>by(try dsimp only);rw [if_neg (by omega)]) ⟨?_,?_,?_,?_⟩ (h.dt i hi) hs
 · (try dsimp only);rw [if_neg (by omega)];exact q0
 · (try dsimp only);rw [if_neg (by omega)];exact q1
 · (try dsimp only);rw [if_neg (by omega)];exact q2
 · simp
def ndZ:List Value:= [.int .i64 0, .int .i64 0, .slice none 0 0, .slice none 0 0]
theorem Dw.zero (h:Dw w y fb r c A F sd sn Z) {i:Nat} (hi:i < Z.N.length):∃ F',Dw (w.setCells r (i * 4) ndZ) y fb r c A F' (fun j=>if j=i then Sv.nil else sd j) (fun j=>if j=i then Sv.nil else sn j) ⟨Z.N.set i Nd.zero,Z.t⟩:=by
 have R:=(((h.row.set (i * 4) (.int .i64 0)).set (i * 4+1) (.int .i64 0)).set (i * 4+2) (.slice none 0 0)).set (i * 4+3) (.slice none 0 0)
 refine⟨_,h.up hi Nd.zero Sv.nil Sv.nil (Stp.of_setCells w r (i * 4) ndZ (.inl rfl)) R (fun j hj e t ht=>?_) ⟨?_,?_,?_,?_⟩ ⟨Z0y w,InE.nil A⟩ ⟨EsS.nil w,InE.nil A⟩⟩
 · try dsimp only
   rw [if_neg (by omega),if_neg (by omega),if_neg (by omega),if_neg (by omega)]
 · (try dsimp only);rw [if_neg (by omega),if_neg (by omega),if_neg (by omega),if_pos rfl];rfl
 · (try dsimp only);rw [if_neg (by omega),if_neg (by omega),if_pos rfl];rfl
 · (try dsimp only);rw [if_neg (by omega),if_pos rfl];rfl
 · (try dsimp only);rw [if_pos rfl];rfl
end
def Dx (w:World) (U:Nat→Prop) (y:Nat) (Z:Tz):Prop:=∃ fb r c A F sd sn,Dw w y fb r c A F sd sn Z∧∀ x,U x↔x=y∨x=fb∨x=r∨A x
def DxG (U:Nat→Prop) (y:Nat) (Z:Tz) (w w':World):Prop:=∃ U',Dx w' U' y Z∧Stp U w w'∧Grew U U' w w'
section
variable {w w' w'' : World} {y : Nat} {U U' F : Nat → Prop} {Z Z' : Tz}
theorem Dx.step (h:Dx w U y Z) (k:Stp F w w') (hF:∀ x,U x→¬F x):Dx w' U y Z:=by
 obtain⟨fb,r,c,A,G,sd,sn,h1,h2⟩:=h
 exact⟨fb,r,c,A,G,sd,sn,h1.step k (hF _ ((h2 _).2 (.inl rfl))) (hF _ ((h2 _).2 (.inr (.inl rfl)))) (hF _ ((h2 _).2 (.inr (.inr (.inl rfl))))) (fun x hx=>hF x ((h2 x).2 (.inr (.inr (.inr hx))))),h2⟩
theorem Dx.later (h:Dx w U y Z) (k:Below w.heap.size w w'):Dx w' U y Z:=h.step (Stp.of_below k (fun _=>False)) (fun _ _=>id)
theorem Dx.low (h:Dx w U y Z):∀ x,U x→x < w.heap.size:=by
 obtain⟨fb,r,c,A,G,sd,sn,h1,h2⟩:=h
 intro x hx
 rcases (h2 x).1 hx with e | e | e | e
 · rw [e];exact h1.tr.lt
 · rw [e];exact h1.fd.lt
 · rw [e];exact h1.row.lt
 · exact(h1.nA x e).2.2.2
theorem DxG.refl (h:Dx w U y Z) (hb:Below w.heap.size w w'):DxG U y Z w w':=⟨U,h.later hb,Stp.of_below hb U,Grew.refl _ _ _⟩
theorem DxG.stp (h:DxG U y Z w w'):Stp U w w':=by obtain⟨U',_,a,_⟩:=h;exact a
theorem DxG.join {w1 w2:World} (s:Stp U w w1) (e:Grew U U' w w1) (h:DxG U' y Z w1 w2):DxG U y Z w w2:=by
 obtain⟨U'',t2,s2,e2⟩:=h
 refine⟨U'',t2,s.next s2 (fun x hx=>?_),e.trans e2 s.size s2.size⟩
 rcases e x hx with c | c
 · exact .inl c
 · exact .inr c.1
theorem DxG.ahead (h:DxG U y Z w w') (hb:Below w'.heap.size w' w''):DxG U y Z w w'':=by
 obtain⟨U',a1,a2,a3⟩:=h
 refine⟨U',a1.later hb,a2.trans (Stp.of_below hb U),fun x hx=>?_⟩
 rcases a3 x hx with e | e
 · exact .inl e
 · exact .inr ⟨e.1,Nat.lt_of_lt_of_le e.2 hb.size⟩
end
end Go.Proofs.YtdnjddpfcgginaaGreat
