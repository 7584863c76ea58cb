/-
  Texts of my own, joined: no statement is proved here.
-/
import Derived.Test.YtdnjddpfcgginaaGreatKam
set_option linter.unusedSimpArgs false
set_option linter.unusedVariables false
namespace Go.Proofs.YtdnjddpfcgginaaGreat
open Go.ChangeShapes Go.WideShapes Go.ChangeAt Go.RowKit
set_option maxRecDepth 100000
def tlB (a:Option Addr) (c k:Nat):Option Addr:=if c=k then a else a.map (·.add k)
theorem Zd7:Tryz.prog.elem 29=5:=by kernel_rfl
theorem undB:Tryz.prog.underlying 29=some (.slice (Tryz.prog.elem 29)):=by rw [Zd7];exact elB.und
theorem sizB (w:World):(sizeOf 5).run Tryz.prog w= .ok 1 w:=by kernel_rfl
theorem Zef (a:Option Addr) (n c l h:Nat) (h1:l≤h) (h2:h≤c) (w:World):(Instr.sliceAt 29 (.slice a n c) (some (.int .i64 (l:Int))) (some (.int .i64 (h:Int))) none).run Tryz.prog w= .ok (.slice (tlB a c l) (h - l) (c - l)) w:=by
 rw [run_sliceAt_slice (h:=undB),run_slice_lh (ht:=undB) (h0:=by omega) (h1:=by omega) (h2:=by omega),Zd7,sizB]
 simp only [Result.andThen,sliced,Int.toNat_natCast,Nat.mul_one]
 rfl
theorem Zah {w:World} {s:Sv} {d:List Int} (h:BsS w s d) (l r:Nat) (h1:l≤r) (h2:r≤s.n):BsS w ⟨tlB s.a s.c l,r - l,s.c - l⟩ ((d.drop l).take (r - l)):=by
 have hl:=h.len
 have hle:=h.le
 have hcap:=h.cap
 refine⟨by simp;omega,by show r - l≤s.c - l;omega,by show s.c - l≤maxLen;omega,fun e=>?_,fun x hx=>h.byte x (List.mem_of_mem_drop (List.mem_of_mem_take hx)),fun hn=>?_⟩
 · have :s.a=none:=by
    unfold tlB at e
    split at e
    · exact e
    · simpa using e
   have:=h.nil this
   show s.c - l=0;omega
 · have hn':0 < r - l:=hn
   obtain⟨b,o,e,hc⟩:=h.cell (by omega)
   refine⟨b,o+l,?_,fun i hi=>?_⟩
   · show tlB s.a s.c l=_
     unfold tlB
     rw [if_neg (by omega),e]
     simp only [Option.map_some,Addr.add_mid]
   · have hi':i < r - l:=hi
     rw [Nat.add_assoc,hc (l+i) (by omega),List.getD_eq_getElem?_getD,List.getD_eq_getElem?_getD,List.getElem?_take,if_pos hi',List.getElem?_drop]
section
variable {ops : Array Oper} {rest : List Oper} {o : Oper} {a : Act} {w : World} {Q : Exit → Act → World → Prop}
theorem Zae (hw:Region.wanted o (yielded ops a.tmps)=true) (x y z:Operand) (ho:o.op= .slice 29 x (some y) (some z) none) (s:Sv) (hx:a.eval x=s.v) (l r:Nat) (hy:a.eval y= .int .i64 (l:Int)) (hz:a.eval z= .int .i64 (r:Int)) (h1:l≤r) (h2:r≤s.c)
 (h:wpList Tryz.prog ops Q rest (a.put o.dst (.slice (tlB s.a s.c l) (r - l) (s.c - l))) w):wpList Tryz.prog ops Q (o::rest) a w:=by
 refine Z0z hw _ _ ?_ h
 simp only [Sv.v]at hx
 simp [execOp,ho,hx,hy,hz,Zef s.a s.n s.c l r h1 h2]
end
set_option maxHeartbeats 2000000 in
theorem Z3n {w:World} {s:Sv} {l:List Int} (h:BsS w s l) (hl:l.length≤100000):
 Calls Tryz.prog 37 #[.slice s.a s.n s.c] w fun e w'=>∃ s':Sv,e= .returned (.slice s'.a s'.n s'.c)∧OwD w' s'.v l∧(∀ r,s'.v.ownBlock=some r→w.heap.size≤r)∧s'.n=l.length∧Below w.heap.size w w':=by
 have hlen:l.length=s.n:=h.len
 have hcs:=h.cells
 have qnB:∀ (w:World) (a:Option Addr) (n c n' c':Nat),(binOp .eql 29 (.slice a n c) (.slice none n' c')).run Tryz.prog w= .ok (.bool a.isNone) w:=fun w a n c n' c'=>Lib.run_eql_slice_nil w _ _ a n c n' c' elB.und
 have hz:=h.zero
 obtain⟨sa,sn,sc⟩:=s
 simp only at hlen hcs hz ⊢
 subst hlen
 cases sa with
 | none=>
   obtain⟨z1,z2,rfl⟩:=hz rfl
   subst z2
   go_enter Tryz.func37,Tryz.ntmps37
   go_wp2
   go_returns
   exact⟨Sv.nil,rfl,OwD.nil _,(fun r e=>by cases e),rfl,Below.refl _ _⟩
 | some ad=>
   have q0:(w.alloc (.cells #[] 5)).ownsRow 0 5 1 (.slice (some ⟨w.heap.size,0,none⟩) 0 0) 0 []:=World.ownsRow_made w #[] 0 (Nat.zero_le _) (Nat.zero_le _) rfl
   have hN:New w.heap.size (.slice (some ⟨w.heap.size,0,none⟩) 0 0):=fun r e=>by
    have:w.heap.size=r:=by simpa [Value.ownBlock]using e
    omega
   have hcs':∀ ad',some ad=some ad'→∀ j u,(l.map (Value.int .u8))[j]? =some u→(w.alloc (.cells #[] 5)).cell? (ad'.add j)=some u:=fun ad' e j u hu=>by
    have:=hcs ad' e j u hu
    rw [((Below.refl _ w).alloc (Nat.le_refl _) (.cells #[] 5)).cell (World.block_lt_of_cell? w _ this)];exact this
   go_enter Tryz.func37,Tryz.ntmps37
   go_wp2_with (first
    | (refine Z3c elB w.heap.size rfl _ _ (by rfl) (by rfl) q0 hN (some ad) sc (l.map (Value.int .u8)) (by rfl) (by simp) (fun e=>by cases e) hcs' (fun u hu=>by obtain⟨x,_,rfl⟩:=List.mem_map.1 hu;rfl) (by omega) (by simp) ?_;intro v' w' hA))
   go_returns
   obtain⟨h1,h2,h3,h4,h5⟩:=hA
   rw [Nat.zero_add,List.nil_append]at h1
   obtain⟨s',rfl,hs'⟩:=OwD.shape h1
   have k0:Stp (fun _=>False) w (w.alloc (.cells #[] 5)):=Stp.of_alloc _ _ _
   exact⟨s',rfl,h1,h2,hs',(k0.next h4 (F':=fun x=>some w.heap.size=some x) (fun x e=> .inr (by injection e with e;omega))).below (Nat.le_refl _) (fun x e=>e.elim)⟩
theorem bit1 {m:Int} (h:1≤m∧m≤3):bits .and .i64 m 1=m % 2:=by
 obtain rfl | rfl | rfl:m=1∨m=2∨m=3:=by omega
 all_goals decide+kernel
theorem bit2 {m:Int} (h:1≤m∧m≤3):bits .and .i64 m 2=if m < 2 then 0 else 2:=by
 obtain rfl | rfl | rfl:m=1∨m=2∨m=3:=by omega
 all_goals decide+kernel
section
variable {ops : Array Oper} {rest : List Oper} {o : Oper} {a : Act} {w : World} {Q : Exit → Act → World → Prop}
theorem Z14 (hw:Region.wanted o (yielded ops a.tmps)=true) (ho:o.op= .alloc 108)
 (h:∀ g w',w.heap.size≤g→g < w'.heap.size→Cs w' g Fl.zero.cs→Below w.heap.size w w'→wpList Tryz.prog ops Q rest (a.put o.dst (.pointer (some ⟨g,0,none⟩))) w'):wpList Tryz.prog ops Q (o::rest) a w:=Z0x hw ho h
end
def opnE (Z:Tz) (fd c:Int):Int:=if Z04 Z.t fd=0 then(if c=0 then 50 else 0)else 46
def opnF (Z:Tz) (fd c:Int):Fl:=if opnE Z fd c=0 then Z01 Z.t fd else Fl.zero
theorem Z38 {w:World} {U:Nat→Prop} {g B:Nat} {q:Int→Nat} {Z:Tz} (h:Tx w U g q B Z) (fd fl c:Int) (hc:bits .and .i64 (Z01 Z.t fd).m fl=c):
 Calls Tryz.prog 102 #[.pointer (some ⟨g,0,none⟩), .int .i64 fd, .int .i64 fl] w fun e w'=>e= .returned (.tuple #[.agg (opnF Z fd c).cs.toArray, .int .i64 (opnE Z fd c)])∧Below w.heap.size w w':=by
 have hG:=fun w' (b:Below w.heap.size w w') (tg mb ob nb sv) (H:Tw w' tg g mb ob q nb sv B Z)=>tget H fd
 have hU:=h.low
 rcases Z1q Z.t fd with h0 | h0
 · have hc':bits .and .i64 (Z01 Z.t fd).m fl=c:=hc
   by_cases h1:c=0
   · have e1:opnE Z fd c=50:=by unfold opnE;rw [if_pos h0,if_pos h1]
     have e2:opnF Z fd c=Fl.zero:=by unfold opnF;rw [if_neg (by rw [e1];decide)]
     rw [e1,e2]
     clear e1 e2
     rw [h1]at hc'
     go_enter Tryz.func102,Tryz.ntmps102
     go_wp2_with (first
      | (refine Z14 (by rfl) (by rfl) ?_;intro ga w1 z1 z2 r1 b1
         obtain⟨tg,mb,ob,nb,sv,H1,hU1⟩:=h.later b1
         have c2:=H1.c2)
      | (go_at_call 65;refine(tget H1 fd).mono ?_;rintro e w2 ⟨rfl,b2⟩
         rw [h0]
         have B2:=Z00q b1 b2 (Nat.le_refl _)
         have r12:=r1.later b2
         have zz2:=b2.size)
      | (refine Z14 (by rfl) (by rfl) ?_;intro gb w3 z3 z4 r3 b3
         have B3:=Z00q B2 b3 (Nat.le_refl _)
         have r13:=r12.later b3)
      | (refine Z10 (by rfl) _ _ (by rfl) gb (by rfl) (Z01 Z.t fd) (by rfl) _ r3 rfl ?_;intro w4 r4 s4
         have r14:=r13.step s4 (by omega)
         have c4:=r4.cell 2 _ rfl
         have B4:Below w.heap.size w w4:=((Stp.of_below B3 (fun _=>False)).next s4 (fun y e=> .inr (by have:=B2.size;omega))).below (Nat.le_refl _) (fun y e=>e.elim))
      | (refine Z10 (by rfl) _ _ (by rfl) ga (by rfl) Fl.zero (by rfl) _ r14 rfl ?_;intro w5 r5 s5))
     exact bodyPost_ret (Z0d Z2t Tryz.results102 rfl rfl r5 rfl) rfl ⟨rfl,((Stp.of_below B4 (fun _=>False)).next s5 (fun y e=> .inr (by omega))).below (Nat.le_refl _) (fun y e=>e.elim)⟩
   · have e1:opnE Z fd c=0:=by unfold opnE;rw [if_pos h0,if_neg h1]
     have e2:opnF Z fd c=Z01 Z.t fd:=by unfold opnF;rw [if_pos e1]
     rw [e1,e2]
     clear e1 e2
     go_enter Tryz.func102,Tryz.ntmps102
     go_wp2_with (first
      | (refine Z14 (by rfl) (by rfl) ?_;intro ga w1 z1 z2 r1 b1
         obtain⟨tg,mb,ob,nb,sv,H1,hU1⟩:=h.later b1
         have c2:=H1.c2)
      | (go_at_call 65;refine(tget H1 fd).mono ?_;rintro e w2 ⟨rfl,b2⟩
         rw [h0]
         have B2:=Z00q b1 b2 (Nat.le_refl _)
         have r12:=r1.later b2
         have zz2:=b2.size)
      | (refine Z14 (by rfl) (by rfl) ?_;intro gb w3 z3 z4 r3 b3
         have B3:=Z00q B2 b3 (Nat.le_refl _)
         have r13:=r12.later b3)
      | (refine Z10 (by rfl) _ _ (by rfl) gb (by rfl) (Z01 Z.t fd) (by rfl) _ r3 rfl ?_;intro w4 r4 s4
         have r14:=r13.step s4 (by omega)
         have c4:=r4.cell 2 _ rfl
         have B4:Below w.heap.size w w4:=((Stp.of_below B3 (fun _=>False)).next s4 (fun y e=> .inr (by have:=B2.size;omega))).below (Nat.le_refl _) (fun y e=>e.elim))
      | (refine Z4n (by rfl) _ (by rfl) gb (by rfl) (Z01 Z.t fd) r4 ?_)
      | (refine Z10 (by rfl) _ _ (by rfl) ga (by rfl) (Z01 Z.t fd) (by rfl) _ r14 rfl ?_;intro w5 r5 s5))
     exact bodyPost_ret (Z0d Z2t Tryz.results102 rfl rfl r5 rfl) rfl ⟨rfl,((Stp.of_below B4 (fun _=>False)).next s5 (fun y e=> .inr (by omega))).below (Nat.le_refl _) (fun y e=>e.elim)⟩
 · have e1:opnE Z fd c=46:=by unfold opnE;rw [if_neg (by rw [h0];decide)]
   have e2:opnF Z fd c=Fl.zero:=by unfold opnF;rw [if_neg (by rw [e1];decide)]
   rw [e1,e2]
   clear e1 e2
   go_enter Tryz.func102,Tryz.ntmps102
   go_wp2_with (first
    | (refine Z14 (by rfl) (by rfl) ?_;intro ga w1 z1 z2 r1 b1
       obtain⟨tg,mb,ob,nb,sv,H1,hU1⟩:=h.later b1
       have c2:=H1.c2)
    | (go_at_call 65;refine(tget H1 fd).mono ?_;rintro e w2 ⟨rfl,b2⟩
       rw [h0]
       have B2:=Z00q b1 b2 (Nat.le_refl _)
       have r12:=r1.later b2
       have zz2:=b2.size)
    | (refine Z14 (by rfl) (by rfl) ?_;intro gb w3 z3 z4 r3 b3
       have B3:=Z00q B2 b3 (Nat.le_refl _)
       have r13:=r12.later b3)
    | (refine Z10 (by rfl) _ _ (by rfl) gb (by rfl) (Z01 Z.t fd) (by rfl) _ r3 rfl ?_;intro w4 r4 s4
       have r14:=r13.step s4 (by omega)
       have B4:Below w.heap.size w w4:=((Stp.of_below B3 (fun _=>False)).next s4 (fun y e=> .inr (by have:=B2.size;omega))).below (Nat.le_refl _) (fun y e=>e.elim))
    | (refine Z10 (by rfl) _ _ (by rfl) ga (by rfl) Fl.zero (by rfl) _ r14 rfl ?_;intro w5 r5 s5))
   exact bodyPost_ret (Z0d Z2t Tryz.results102 rfl rfl r5 rfl) rfl ⟨rfl,((Stp.of_below B4 (fun _=>False)).next s5 (fun y e=> .inr (by omega))).below (Nat.le_refl _) (fun y e=>e.elim)⟩
theorem Z9x (F:Nat→Value) {n o:Nat} (h:o+3≤n) (a b c:Value):((List.range n).map F).take o++ [a,b,c]++((List.range n).map F).drop (o+3)=(List.range n).map (fun j=>if j=o then a else if j=o+1 then b else if j=o+2 then c else F j):=by
 apply List.ext_getElem?
 intro i
 have hl:(((List.range n).map F).take o).length=o:=by simp;omega
 by_cases h1:i < o
 · rw [List.append_assoc,List.getElem?_append_left (by omega),List.getElem?_take,if_pos h1,Z23 F (by omega),Z23 _ (by omega),if_neg (by omega),if_neg (by omega),if_neg (by omega)]
 · by_cases h2:i < o+3
   · rw [List.append_assoc,List.getElem?_append_right (by omega),hl,List.getElem?_append_left (by simp;omega),Z23 _ (by omega)]
     obtain rfl | rfl | rfl:i=o∨i=o+1∨i=o+2:=by omega
     · simp
     · simp
     · simp
   · rw [List.getElem?_append_right (by simp;omega)]
     have hl2:(((List.range n).map F).take o++ [a,b,c]).length=o+3:=by simp;omega
     rw [hl2,List.getElem?_drop]
     by_cases h3:i < n
     · rw [Z23 F (by omega),Z23 _ h3,if_neg (by omega),if_neg (by omega),if_neg (by omega)]
       congr 2;omega
     · rw [List.getElem?_eq_none (by simp;omega),List.getElem?_eq_none (by simp;omega)]
theorem Rfn.three {w:World} {g n:Nat} {F:Nat→Value} (h:Rfn w g n F) (o:Nat) (f:Fl) (ho:o+3≤n):Rfn (w.setCells g o f.cs) g n (fun j=>if j=o then .int .i64 f.i else if j=o+1 then .int .i64 f.p else if j=o+2 then .int .i64 f.m else F j):=by
 have:=Cs.setCells h o f.cs (by simp [Fl.cs];omega) f.cs_one
 have e:f.cs.length=3:=rfl
 rw [e]at this
 unfold Rfn
 rw [← Z9x F ho]
 exact this
def Rd (w:World) (y:Nat) (t:FT):Prop:=∃ F,Rfn w y 32 F∧(∀ i,i < 8→F i= .bool (t i).isSome)∧∀ i f,i < 8→t i=some f→F (8+i * 3)= .int .i64 f.i∧F (8+i * 3+1)= .int .i64 f.p∧F (8+i * 3+2)= .int .i64 f.m
section
variable {w w' : World} {y : Nat} {t : FT} {U : Nat → Prop}
theorem Rd.lt (h:Rd w y t):y < w.heap.size:=by obtain⟨F,h,_⟩:=h;exact h.lt
theorem Rd.step (h:Rd w y t) (k:Stp U w w') (hy:¬U y):Rd w' y t:=by obtain⟨F,h1,h2,h3⟩:=h;exact⟨F,h1.step k hy,h2,h3⟩
theorem Rd.later (h:Rd w y t) (k:Below w.heap.size w w'):Rd w' y t:=h.step (Stp.of_below k (fun _=>False)) id
theorem Rd.in (h:Rd w y t) {i:Nat} (hi:i < 8):w.cell? ⟨y,i,none⟩=some (.bool (t i).isSome):=by obtain⟨F,h1,h2,h3⟩:=h;rw [h1.cell (by omega),h2 i hi]
theorem Rd.fz (h:Rd w y t) (i:Nat):w.frozen? ⟨y,i,none⟩=false:=by obtain⟨F,h1,h2,h3⟩:=h;exact h1.fz i
theorem Rd.c0 (h:Rd w y t) {i:Nat} {f:Fl} (hi:i < 8) (ht:t i=some f):w.cell? ⟨y,8+i * 3,none⟩=some (.int .i64 f.i):=by obtain⟨F,h1,h2,h3⟩:=h;rw [h1.cell (by omega),(h3 i f hi ht).1]
theorem Rd.c1 (h:Rd w y t) {i:Nat} {f:Fl} (hi:i < 8) (ht:t i=some f):w.cell? ⟨y,8+i * 3+1,none⟩=some (.int .i64 f.p):=by obtain⟨F,h1,h2,h3⟩:=h;rw [h1.cell (by omega),(h3 i f hi ht).2.1]
theorem Rd.c2 (h:Rd w y t) {i:Nat} {f:Fl} (hi:i < 8) (ht:t i=some f):w.cell? ⟨y,8+i * 3+2,none⟩=some (.int .i64 f.m):=by obtain⟨F,h1,h2,h3⟩:=h;rw [h1.cell (by omega),(h3 i f hi ht).2.2]
theorem Rd.range (h:Rd w y t) {i:Nat} {f:Fl} (hi:i < 8) (ht:t i=some f):w.rangeAt y (8+i * 3) f.cs:=fun j v hv=>by
 unfold Fl.cs at hv
 match j,hv with
 | 0,hv=>simp at hv;subst hv;exact h.c0 hi ht
 | 1,hv=>simp at hv;subst hv;exact h.c1 hi ht
 | 2,hv=>simp at hv;subst hv;exact h.c2 hi ht
 | j+3,hv=>simp at hv
theorem Rd.free (h:Rd w y t) {i:Nat} (hi:i < 8):Rd (w.setCell ⟨y,i,none⟩ (.bool false)) y (fdUp t i none):=by
 obtain⟨F,h1,h2,h3⟩:=h
 refine⟨_,h1.set i _ rfl,fun j hj=>?_,fun j f hj ht=>?_⟩
 · unfold fdUp
   by_cases e:j=i
   · simp [e]
   · simp [e,h2 j hj]
 · unfold fdUp at ht
   by_cases e:j=i
   · rw [if_pos e]at ht;cases ht
   · rw [if_neg e]at ht
     rw [if_neg (by omega),if_neg (by omega),if_neg (by omega)]
     exact h3 j f hj ht
theorem Rd.pos (h:Rd w y t) {i:Nat} {f:Fl} (hi:i < 8) (ht:t i=some f) (p:Int):Rd (w.setCell ⟨y,8+i * 3+1,none⟩ (.int .i64 p)) y (fdUp t i (some ⟨f.i,p,f.m⟩)):=by
 obtain⟨F,h1,h2,h3⟩:=h
 refine⟨_,h1.set _ _ rfl,fun j hj=>?_,fun j f' hj ht'=>?_⟩
 · rw [if_neg (by omega),h2 j hj]
   unfold fdUp
   by_cases e:j=i
   · subst e;simp [ht]
   · simp [e]
 · unfold fdUp at ht'
   by_cases e:j=i
   · subst e
     rw [if_pos rfl]at ht'
     injection ht' with ht';subst ht'
     obtain⟨a1,a2,a3⟩:=h3 j f hj ht
     rw [if_neg (by omega),if_pos rfl,if_neg (by omega)]
     exact⟨a1,rfl,a3⟩
   · rw [if_neg e]at ht'
     rw [if_neg (by omega),if_neg (by omega),if_neg (by omega)]
     exact h3 j f' hj ht'
theorem Rd.put (h:Rd w y t) {i:Nat} (hi:i < 8) (f:Fl):Rd ((w.setCell ⟨y,i,none⟩ (.bool true)).setCells y (8+i * 3) f.cs) y (fdUp t i (some f))∧Rd ((w.setCells y (8+i * 3) f.cs).setCell ⟨y,i,none⟩ (.bool true)) y (fdUp t i (some f)):=by
 obtain⟨F,h1,h2,h3⟩:=h
 constructor
 · refine⟨_,(h1.set i _ rfl).three (8+i * 3) f (by omega),fun j hj=>?_,fun j f' hj ht'=>?_⟩
   · rw [if_neg (by omega),if_neg (by omega),if_neg (by omega)]
     unfold fdUp
     by_cases e:j=i
     · simp [e]
     · simp [e,h2 j hj]
   · unfold fdUp at ht'
     by_cases e:j=i
     · subst e
       rw [if_pos rfl]at ht'
       injection ht' with ht';subst ht'
       refine⟨by rw [if_pos rfl],by rw [if_neg (by omega),if_pos rfl],by rw [if_neg (by omega),if_neg (by omega),if_pos rfl]⟩
     · rw [if_neg e]at ht'
       obtain⟨a1,a2,a3⟩:=h3 j f' hj ht'
       refine⟨?_,?_,?_⟩
       · rw [if_neg (by omega),if_neg (by omega),if_neg (by omega),if_neg (by omega)];exact a1
       · rw [if_neg (by omega),if_neg (by omega),if_neg (by omega),if_neg (by omega)];exact a2
       · rw [if_neg (by omega),if_neg (by omega),if_neg (by omega),if_neg (by omega)];exact a3
 · refine⟨_,(h1.three (8+i * 3) f (by omega)).set i _ rfl,fun j hj=>?_,fun j f' hj ht'=>?_⟩
   · unfold fdUp
     by_cases e:j=i
     · simp [e]
     · rw [if_neg e,if_neg (by omega),if_neg (by omega),if_neg (by omega),h2 j hj,if_neg e]
   · unfold fdUp at ht'
     by_cases e:j=i
     · subst e
       rw [if_pos rfl]at ht'
       injection ht' with ht';subst ht'
       refine⟨by rw [if_neg (by omega),if_pos rfl],by rw [if_neg (by omega),if_neg (by omega),if_pos rfl],by rw [if_neg (by omega),if_neg (by omega),if_neg (by omega),if_pos rfl]⟩
     · rw [if_neg e]at ht'
       obtain⟨a1,a2,a3⟩:=h3 j f' hj ht'
       refine⟨?_,?_,?_⟩
       · rw [if_neg (by omega),if_neg (by omega),if_neg (by omega),if_neg (by omega)];exact a1
       · rw [if_neg (by omega),if_neg (by omega),if_neg (by omega),if_neg (by omega)];exact a2
       · rw [if_neg (by omega),if_neg (by omega),if_neg (by omega),if_neg (by omega)];exact a3
end
def rdZ:List Value:=List.replicate 8 (Value.bool false)++List.replicate 24 (Value.int .i64 0)
theorem Rd.made (w:World) (T:TypeId):Rd (w.alloc (.cells rdZ.toArray T)) w.heap.size Z2s:=by
 refine⟨fun i=>if i < 8 then .bool false else .int .i64 0,?_,fun i hi=>by simp [hi,Z2s],fun i f _ h=>by cases h⟩
 have:(List.range 32).map (fun i=>if i < 8 then Value.bool false else .int .i64 0)=rdZ:=rfl
 unfold Rfn
 rw [this]
 exact Cs.made w _ T (fun v hv=>by unfold rdZ at hv;rcases List.mem_append.1 hv with h | h<;>(rw [(List.mem_replicate.1 h).2];rfl))
theorem Zb6 (w:World):
 Calls Tryz.prog 26 #[] w fun e w'=>∃ y,e= .returned (.pointer (some ⟨y,0,none⟩))∧w.heap.size≤y∧Below w.heap.size w w'∧Rd w' y Z2s:=by
 have hz:∀ u:World,(Instr.build 100 #[]).run Tryz.prog u= .ok (.agg rdZ.toArray) u:=fun u=>by kernel_rfl
 go_enter Tryz.func26,Tryz.ntmps26
 go_wp2
 go_returns
 exact⟨_,rfl,Nat.le_refl _,by go_grown,Rd.made w _⟩
theorem Z2e:Srt 97 3 Fl.zero.cs:=
 ⟨⟨_,Tryz.underlying97,rfl⟩,by kernel_rfl,fun w=>(zero_of_info (v:= .agg Fl.zero.cs.toArray) (n:=3) (by kernel_rfl)).1 w,rfl,Fl.zero.cs_one⟩
section
variable {ops : Array Oper} {rest : List Oper} {o : Oper} {a : Act} {w : World} {Q : Exit → Act → World → Prop}
theorem Z1w (hw:Region.wanted o (yielded ops a.tmps)=true) (ho:o.op= .alloc 97)
 (h:∀ g w',w.heap.size≤g→g < w'.heap.size→Cs w' g Fl.zero.cs→Below w.heap.size w w'→wpList Tryz.prog ops Q rest (a.put o.dst (.pointer (some ⟨g,0,none⟩))) w'):wpList Tryz.prog ops Q (o::rest) a w:=
 Z1i 97 3 _ Z2e hw ho h
theorem Z7h (hw:Region.wanted o (yielded ops a.tmps)=true) (y:Operand) (ho:o.op= .load 97 y) (g:Nat) (hx:a.eval y= .pointer (some ⟨g,0,none⟩)) (f:Fl) (hR:Cs w g f.cs)
 (h:wpList Tryz.prog ops Q rest (a.put o.dst (.agg f.cs.toArray)) w):wpList Tryz.prog ops Q (o::rest) a w:=
 Z0k 97 3 _ Z2e hw y ho g hx f.cs hR rfl h
theorem Z1x (hw:Region.wanted o (yielded ops a.tmps)=true) (y z:Operand) (ho:o.op= .store 97 y z) (g:Nat) (hx:a.eval y= .pointer (some ⟨g,0,none⟩)) (f:Fl) (hy:a.eval z= .agg f.cs.toArray) (cs:List Value) (hR:Cs w g cs) (hl:cs.length=3)
 (h:∀ w',Cs w' g f.cs→Stp (fun x=>x=g) w w'→wpList Tryz.prog ops Q rest (a.put o.dst undef) w'):wpList Tryz.prog ops Q (o::rest) a w:=
 Z1e 97 3 _ Z2e hw y z ho g hx f.cs hy rfl f.cs_one cs hR hl h
theorem Zdj (hw:Region.wanted o (yielded ops a.tmps)=true) (x:Operand) (ho:o.op= .load 97 x) (y i:Nat) (hx:a.eval x= .pointer (some ⟨y,8+i * 3,none⟩)) (f:Fl) (hr:w.rangeAt y (8+i * 3) f.cs)
 (h:wpList Tryz.prog ops Q rest (a.put o.dst (.agg f.cs.toArray)) w):wpList Tryz.prog ops Q (o::rest) a w:=by
 refine Z0z hw _ _ ?_ h
 obtain⟨d,h1,h2⟩:=Z2e.und
 have:(loadVar 97 ⟨y,8+i * 3,none⟩).run Tryz.prog w= .ok (.agg f.cs.toArray) w:=run_loadVar_mid w y _ _ f.cs _ hr h1 h2 (by rw [Z2e.size];simp [Fl.cs])
 simp [execOp,ho,hx,Instr.loadAt,Instr.sureAddr,this]
end
theorem Z0l {w:World} {y:Nat} {t:FT} (h:Rd w y t) (x:Int):
 Calls Tryz.prog 70 #[.pointer (some ⟨y,0,none⟩), .int .i64 x] w fun e w'=>e= .returned (.tuple #[.agg (Z01 t x).cs.toArray, .int .i64 (Z04 t x)])∧Below w.heap.size w w':=by
 cases hh:Z0u t x with
 | none=>
   have e1:Z01 t x=Fl.zero:=by unfold Z01;rw [hh];rfl
   have e2:Z04 t x=46:=by unfold Z04;rw [hh];rfl
   rw [e1,e2]
   clear e1 e2
   by_cases h1:x < 0
   · go_enter Tryz.func70,Tryz.ntmps70
     go_wp2_with (first
      | (refine Z1w (by rfl) (by rfl) ?_;intro g1 w1 a1 a2 r1 b1)
      | (refine Z1x (by rfl) _ _ (by rfl) g1 (by rfl) Fl.zero (by rfl) _ r1 rfl ?_;intro w2 r2 s2))
     exact bodyPost_ret (Z0d Z2e Tryz.results70 rfl rfl r2 rfl) rfl ⟨rfl,((Stp.of_below b1 (fun _=>False)).next s2 (fun x e=> .inr (by omega))).below (Nat.le_refl _) (fun _ h=>h.elim)⟩
   · by_cases h2:x > 7
     · have h3:¬x < 0:=h1
       go_enter Tryz.func70,Tryz.ntmps70
       go_wp2_with (first
        | (refine Z1w (by rfl) (by rfl) ?_;intro g1 w1 a1 a2 r1 b1)
        | (refine Z1x (by rfl) _ _ (by rfl) g1 (by rfl) Fl.zero (by rfl) _ r1 rfl ?_;intro w2 r2 s2))
       exact bodyPost_ret (Z0d Z2e Tryz.results70 rfl rfl r2 rfl) rfl ⟨rfl,((Stp.of_below b1 (fun _=>False)).next s2 (fun x e=> .inr (by omega))).below (Nat.le_refl _) (fun _ h=>h.elim)⟩
     · obtain⟨k,rfl⟩:∃ k:Nat,x=(k:Int):=⟨x.toNat,by omega⟩
       have hk:k < 8:=by omega
       rw [Z29 hk]at hh
       have a0:(0:Int)≤(k:Int):=by omega
       have a1:(k:Int) < 8:=by omega
       have a2:¬(7:Int) < (k:Int):=by omega
       have a3:¬(k:Int) < 0:=by omega
       clear h1 h2
       go_enter Tryz.func70,Tryz.ntmps70
       go_wp2_with (first
        | (refine Z1w (by rfl) (by rfl) ?_;intro g1 w1 z1 z2 r1 b1
           have c0:=(h.later b1).in hk
           rw [hh]at c0
           simp only [Option.isSome_none]at c0)
        | (refine Z1x (by rfl) _ _ (by rfl) g1 (by rfl) Fl.zero (by rfl) _ r1 rfl ?_;intro w2 r2 s2))
       exact bodyPost_ret (Z0d Z2e Tryz.results70 rfl rfl r2 rfl) rfl ⟨rfl,((Stp.of_below b1 (fun _=>False)).next s2 (fun x e=> .inr (by omega))).below (Nat.le_refl _) (fun _ h=>h.elim)⟩
 | some f=>
   obtain ⟨k,hk,rfl⟩:∃ k:Nat,k < 8∧x=(k:Int):=by
    unfold Z0u at hh
    split at hh
    · exact⟨x.toNat,by omega,by omega⟩
    · cases hh
   have e1:Z01 t (k:Int)=f:=by unfold Z01;rw [hh];rfl
   have e2:Z04 t (k:Int)=0:=by unfold Z04;rw [hh];rfl
   rw [e1,e2]
   rw [Z29 hk]at hh
   have a0:(0:Int)≤(k:Int):=by omega
   have a1:(k:Int) < 8:=by omega
   have a2:¬(7:Int) < (k:Int):=by omega
   have a3:¬(k:Int) < 0:=by omega
   clear e1 e2
   go_enter Tryz.func70,Tryz.ntmps70
   go_wp2_with (first
    | (refine Z1w (by rfl) (by rfl) ?_;intro g1 w1 z1 z2 r1 b1
       have c0:=(h.later b1).in hk
       have cr:=(h.later b1).range hk hh
       rw [hh]at c0
       simp only [Option.isSome_some]at c0)
    | (refine Zdj (by rfl) _ (by rfl) y k (by rfl) f cr ?_)
    | (refine Z1x (by rfl) _ _ (by rfl) g1 (by rfl) f (by rfl) _ r1 rfl ?_;intro w2 r2 s2))
   exact bodyPost_ret (Z0d Z2e Tryz.results70 rfl rfl r2 rfl) rfl ⟨rfl,((Stp.of_below b1 (fun _=>False)).next s2 (fun x e=> .inr (by omega))).below (Nat.le_refl _) (fun _ h=>h.elim)⟩
theorem Z8r {w:World} {y:Nat} {t:FT} (h:Rd w y t) (x:Int):
 Calls Tryz.prog 71 #[.pointer (some ⟨y,0,none⟩), .int .i64 x] w fun e w'=>e= .returned (.tuple #[.agg (Z01 t x).cs.toArray, .int .i64 (Z04 t x)])∧Rd w' y (Z12 t x)∧Stp (fun z=>z=y) w w':=by
 have hG:=fun w' (b:Below w.heap.size w w')=>Z0l (h.later b) x
 have hy:=h.lt
 cases hh:Z0u t x with
 | none=>
   have e1:Z01 t x=Fl.zero:=by unfold Z01;rw [hh];rfl
   have e2:Z04 t x=46:=by unfold Z04;rw [hh];rfl
   have e3:Z12 t x=t:=by unfold Z12;rw [hh]
   rw [e1,e2,e3]
   rw [e1,e2]at hG
   clear e1 e2 e3
   have tk:Hid True:=trivial
   go_enter Tryz.func71,Tryz.ntmps71
   go_wp2_with (first
    | (clear tk;refine Z1w (by rfl) (by rfl) ?_;intro g1 w1 a1 a2 r1 b1)
    | (go_at_call 70;refine(hG _ b1).mono ?_;rintro e w2 ⟨rfl,b2⟩;clear hG)
    | (refine Z1w (by rfl) (by rfl) ?_;intro g3 w3 a3 a4 r3 b3)
    | (refine Z1x (by rfl) _ _ (by rfl) g3 (by rfl) Fl.zero (by rfl) _ r3 rfl ?_;intro w4 r4 s4
       have r5:=((r1.later b2).later b3).step s4 (fun e=>by have e:g1=g3:=e;have:=b2.size;omega))
    | (refine Z7h (by rfl) _ (by rfl) g3 (by rfl) _ r4 ?_)
    | (refine Z1x (by rfl) _ _ (by rfl) g1 (by rfl) Fl.zero (by rfl) _ r5 rfl ?_;intro w6 r6 s6))
   have hz2:=b2.size
   have B:Below w.heap.size w w6:=(((Stp.of_below (Z00q (Z00q b1 b2 (Nat.le_refl _)) b3 (Nat.le_refl _)) (fun _=>False)).next s4 (fun x e=> .inr (by omega))).next s6 (fun x e=> .inr (by omega))).below (Nat.le_refl _) (fun _ h=>h.elim)
   exact bodyPost_ret (Z0d Z2e Tryz.results71 rfl rfl r6 rfl) rfl ⟨rfl,h.later B,Stp.of_below B _⟩
 | some f=>
   obtain ⟨k,hk,rfl⟩:∃ k:Nat,k < 8∧x=(k:Int):=by
    unfold Z0u at hh
    split at hh
    · exact⟨x.toNat,by omega,by omega⟩
    · cases hh
   have e1:Z01 t (k:Int)=f:=by unfold Z01;rw [hh];rfl
   have e2:Z04 t (k:Int)=0:=by unfold Z04;rw [hh];rfl
   have e3:Z12 t (k:Int)=fdUp t k none:=by unfold Z12;rw [hh];simp
   rw [e1,e2,e3]
   rw [e1,e2]at hG
   rw [Z29 hk]at hh
   have a0:(0:Int)≤(k:Int):=by omega
   have a1:(k:Int) < 8:=by omega
   clear e1 e2 e3
   have tk:Hid True:=trivial
   go_enter Tryz.func71,Tryz.ntmps71
   go_wp2_with (first
    | (clear tk;refine Z1w (by rfl) (by rfl) ?_;intro g1 w1 q1 q2 r1 b1)
    | (go_at_call 70;refine(hG _ b1).mono ?_;rintro e w2 ⟨rfl,b2⟩;clear hG)
    | (refine Z1w (by rfl) (by rfl) ?_;intro g3 w3 q3 q4 r3 b3)
    | (refine Z1x (by rfl) _ _ (by rfl) g3 (by rfl) f (by rfl) _ r3 rfl ?_;intro w4 r4 s4
       have hz2:=b2.size
       have B4:Below w.heap.size w w4:=((Stp.of_below (Z00q (Z00q b1 b2 (Nat.le_refl _)) b3 (Nat.le_refl _)) (fun _=>False)).next s4 (fun x e=> .inr (by omega))).below (Nat.le_refl _) (fun _ h=>h.elim)
       have R4:=h.later B4
       have c4:=R4.in hk
       have f4:=R4.fz k
       have s5:Stp (fun z=>z=y) w4 (w4.setCell ⟨y,k,none⟩ (.bool false)):=(Stp.refl (fun z=>z=y) w4).setCell (p:=⟨y,k,none⟩) (.inl rfl) _
       have r4':=r4.step s5 (fun e=>by have e:g3=y:=e;omega)
       have r5:=(((r1.later b2).later b3).step s4 (fun e=>by have e:g1=g3:=e;omega)).step s5 (fun e=>by have e:g1=y:=e;omega))
    | (refine Z7h (by rfl) _ (by rfl) g3 (by rfl) _ r4' ?_)
    | (refine Z1x (by rfl) _ _ (by rfl) g1 (by rfl) f (by rfl) _ r5 rfl ?_;intro w6 r6 s6))
   refine bodyPost_ret (Z0d Z2e Tryz.results71 rfl rfl r6 rfl) rfl ⟨rfl,(R4.free hk).step s6 (fun e=>by have e:y=g1:=e;omega),?_⟩
   exact((Stp.of_below B4 _).trans s5).next s6 (fun x e=> .inr (by omega))
theorem Z50 {w:World} {y:Nat} {t:FT} (h:Rd w y t) (x p:Int):
 Calls Tryz.prog 73 #[.pointer (some ⟨y,0,none⟩), .int .i64 x, .int .i64 p] w fun e w'=>e= .returned (.int .i64 (Z0w t x p))∧Rd w' y (Z0f t x p)∧Stp (fun z=>z=y) w w':=by
 have hG:=Z0l h x
 have hy:=h.lt
 cases hh:Z0u t x with
 | none=>
   have e1:Z01 t x=Fl.zero:=by unfold Z01;rw [hh];rfl
   have e4:Z04 t x=46:=by unfold Z04;rw [hh];rfl
   have e2:Z0w t x p=46:=by unfold Z0w;rw [hh];rfl
   have e3:Z0f t x p=t:=by unfold Z0f;rw [hh]
   rw [e2,e3]
   rw [e1,e4]at hG
   clear e1 e2 e3 e4
   go_enter Tryz.func73,Tryz.ntmps73
   go_wp2_with (first
    | (go_at_call 70;refine hG.mono ?_;rintro e w2 ⟨rfl,b2⟩;clear hG)
    | (refine Z1w (by rfl) (by rfl) ?_;intro g3 w3 a3 a4 r3 b3)
    | (refine Z1x (by rfl) _ _ (by rfl) g3 (by rfl) Fl.zero (by rfl) _ r3 rfl ?_;intro w4 r4 s4))
   go_returns
   have hz2:=b2.size
   have B:Below w.heap.size w w4:=((Stp.of_below (Z00q b2 b3 (Nat.le_refl _)) (fun _=>False)).next s4 (fun x e=> .inr (by omega))).below (Nat.le_refl _) (fun _ h=>h.elim)
   exact⟨rfl,h.later B,Stp.of_below B _⟩
 | some f=>
   obtain ⟨k,hk,rfl⟩:∃ k:Nat,k < 8∧x=(k:Int):=by
    unfold Z0u at hh
    split at hh
    · exact⟨x.toNat,by omega,by omega⟩
    · cases hh
   have e1:Z01 t (k:Int)=f:=by unfold Z01;rw [hh];rfl
   have e4:Z04 t (k:Int)=0:=by unfold Z04;rw [hh];rfl
   rw [e1,e4]at hG
   by_cases hp:p < 0
   · have e2:Z0w t (k:Int) p=2:=by unfold Z0w;rw [hh];simp [hp]
     have e3:Z0f t (k:Int) p=t:=by unfold Z0f;rw [hh];simp [hp]
     rw [e2,e3]
     clear e1 e2 e3 e4 hh
     go_enter Tryz.func73,Tryz.ntmps73
     go_wp2_with (first
      | (go_at_call 70;refine hG.mono ?_;rintro e w2 ⟨rfl,b2⟩;clear hG)
      | (refine Z1w (by rfl) (by rfl) ?_;intro g3 w3 a3 a4 r3 b3)
      | (refine Z1x (by rfl) _ _ (by rfl) g3 (by rfl) f (by rfl) _ r3 rfl ?_;intro w4 r4 s4))
     go_returns
     have hz2:=b2.size
     have B:Below w.heap.size w w4:=((Stp.of_below (Z00q b2 b3 (Nat.le_refl _)) (fun _=>False)).next s4 (fun x e=> .inr (by omega))).below (Nat.le_refl _) (fun _ h=>h.elim)
     exact⟨rfl,h.later B,Stp.of_below B _⟩
   · have e2:Z0w t (k:Int) p=0:=by unfold Z0w;rw [hh];simp [hp]
     have e3:Z0f t (k:Int) p=fdUp t k (some ⟨f.i,p,f.m⟩):=by unfold Z0f;rw [hh];simp [hp]
     rw [e2,e3]
     rw [Z29 hk]at hh
     have a0:(0:Int)≤(k:Int):=by omega
     have a1:(k:Int) < 8:=by omega
     clear e1 e2 e3 e4
     go_enter Tryz.func73,Tryz.ntmps73
     go_wp2_with (first
      | (go_at_call 70;refine hG.mono ?_;rintro e w2 ⟨rfl,b2⟩;clear hG)
      | (refine Z1w (by rfl) (by rfl) ?_;intro g3 w3 a3 a4 r3 b3)
      | (refine Z1x (by rfl) _ _ (by rfl) g3 (by rfl) f (by rfl) _ r3 rfl ?_;intro w4 r4 s4
         have hz2:=b2.size
         have B4:Below w.heap.size w w4:=((Stp.of_below (Z00q b2 b3 (Nat.le_refl _)) (fun _=>False)).next s4 (fun x e=> .inr (by omega))).below (Nat.le_refl _) (fun _ h=>h.elim)
         have R4:=h.later B4
         have c4:=R4.c1 hk hh
         have f4:=R4.fz (8+k * 3+1)))
     go_returns
     exact⟨rfl,R4.pos hk hh p,(Stp.of_below B4 (fun z=>z=y)).setCell (p:=⟨y,8+k * 3+1,none⟩) (.inl rfl) _⟩
theorem Z8s {w:World} {y:Nat} {t:FT} (h:Rd w y t) (x:Int):
 Calls Tryz.prog 110 #[.pointer (some ⟨y,0,none⟩), .int .i64 x] w fun e w'=>e= .returned (.int .i64 (fdCt t x 8))∧w=w':=by
 go_enter Tryz.func110,Tryz.ntmps110
 go_wp2
 go_loopw [5,6] (fun n i wr=>∃ k:Nat,k≤8∧i= .int .i64 (k:Int)∧∃ z:Int,n= .int .i64 z∧Hid (z=fdCt t x k)∧0≤z∧z≤k∧w=wr) (fun _ i _=>8 - (intOf i).toNat)
 case atStart=>exact⟨0,Nat.zero_le _,rfl,0,rfl,rfl,by omega,by omega,rfl⟩
 case round=>
  obtain⟨k,hk,rfl,z,rfl,hz,hz0,hz1,rfl⟩:=hrel
  by_cases hlt:(k:Int) < 8
  · have hk8:k < 8:=by omega
    have a0:(0:Int)≤(k:Int):=by omega
    have c0:=h.in hk8
    have hst:fdCt t x (k+1)=z+(match t k with | some f=>if f.i=x then 1 else 0 | none=>0):=by rw [hz.out];rfl
    cases ht:t k with
    | none=>
      rw [ht]at c0 hst
      simp only [Option.isSome_none]at c0
      have hst':Hid (z=fdCt t x (k+1)):=by show _=_;rw [hst];simp
      clear hst
      go_wp2
      go_roundw
      case rel=>exact⟨k+1,by omega,by go_num,z,rfl,hst',hz0,by omega,by simp⟩
      case measure=>simp [intOf];omega
    | some f=>
      have c1:=h.c0 hk8 ht
      rw [ht]at c0 hst
      simp only [Option.isSome_some]at c0
      by_cases hix:f.i=x
      · have hst':Hid (z+1=fdCt t x (k+1)):=by show _=_;rw [hst];simp [hix]
        rw [hix]at c1
        clear hst hix
        go_wp2
        go_roundw
        case rel=>exact⟨k+1,by omega,by go_num,z+1,by go_num,hst',by omega,by omega,by simp⟩
        case measure=>simp [intOf];omega
      · have hst':Hid (z=fdCt t x (k+1)):=by show _=_;rw [hst];simp [hix]
        clear hst
        go_wp2
        go_roundw
        case rel=>exact⟨k+1,by omega,by go_num,z,by go_num,hst',by omega,by omega,by simp⟩
        case measure=>simp [intOf];omega
  · have hk8:k=8:=by omega
    subst hk8
    go_wp2
    go_returns
    exact⟨by rw [← hz.out];simp,rfl⟩
theorem Zb2 (w:World):OwV (w.alloc (.cells #[] 3)) (.slice (some ⟨w.heap.size,0,none⟩) 0 0) []:=
 Rw1.own (l:= []) (cur:=#[]) ⟨heap_alloc_new w _,Nat.le_refl _,by decide,rfl,rfl⟩
theorem Z6c {w:World} {y:Nat} {t:FT} (h:Rd w y t):
 Calls Tryz.prog 19 #[.pointer (some ⟨y,0,none⟩)] w fun e w'=>∃ v,e= .returned v∧LiR w (fdUs t 8) v w':=by
 go_enter Tryz.func19,Tryz.ntmps19
 go_wp2_with fail
 go_loopw [3,4] (fun v x wr=>∃ (k:Nat) (sv:Sv),k≤8∧x= .int .i64 (k:Int)∧v= .slice sv.a sv.n sv.c∧LiR w (fdUs t k) (.slice sv.a sv.n sv.c) wr) (fun _ x _=>8 - (intOf x).toNat)
 case atStart=>exact⟨0,⟨some ⟨w.heap.size,0,none⟩,0,0⟩,Nat.zero_le _,rfl,rfl,Zb2 w,(fun r e=>Nat.le_of_eq (by simpa [Value.ownBlock]using e)),(Below.refl _ _).alloc (Nat.le_refl _) _⟩
 case round=>
  obtain⟨k,sv,hk,rfl,rfl,I⟩:=hrel
  have hln:=Z2x t k
  have hu:w.heap.size≤wr.heap.size:=I.2.2.size
  by_cases hlt:(k:Int) < 8
  · have hk8:k < 8:=by omega
    have a0:(0:Int)≤(k:Int):=by omega
    have c0:=(h.later I.2.2).in hk8
    obtain⟨l,hl⟩:∃ l,Hid (fdUs t k=l):=⟨_,rfl⟩
    rw [hl.out]at I hln
    cases ht:t k with
    | none=>
      have hL':Hid (fdUs t (k+1)=l):=by show _=_;unfold fdUs;rw [hl.out,ht];simp
      rw [ht]at c0
      simp only [Option.isSome_none]at c0
      go_wp2
      go_roundw
      case rel=>exact⟨k+1,sv,by omega,by go_num,rfl,by rw [hL'.out];exact I⟩
      case measure=>simp [intOf];omega
    | some f=>
      have hL':Hid (fdUs t (k+1)=l++ [(k:Int)]):=by show _=_;unfold fdUs;rw [hl.out,ht];simp
      rw [ht]at c0
      simp only [Option.isSome_some]at c0
      have hbig:l.length+1≤1000000:=by omega
      go_wp2_with (first
       | (at_builtin;refine Z3c elI w.heap.size rfl _ _ (by rfl) (by rfl) (I.later ((Below.refl _ wr).alloc (Nat.le_refl _) _)).1 I.2.1 (some ⟨wr.heap.size,0,none⟩) 1 [.int .i64 (k:Int)] (by rfl) (by simp) (fun e=>by cases e) (fun ad e=>by injection e with e;subst e;exact cell_one_new _ _ _) (by simp [Value.oneCell']) hbig (Nat.le_trans hu (by simp)) ?_;intro v' w9 hA
          have I9:=(I.later ((Below.refl _ wr).alloc (Nat.le_refl _) _)).app hA
          obtain⟨xa,xn,xc,rfl⟩:=I9.1.shape
          clear hA))
      go_roundw
      case rel=>exact⟨k+1,⟨xa,xn,xc⟩,by omega,by go_num,rfl,by rw [hL'.out];exact I9⟩
      case measure=>simp [intOf];omega
  · have hk8:k=8:=by omega
    subst hk8
    go_wp2
    go_returns
    exact⟨_,rfl,I⟩
set_option maxRecDepth 100000
theorem Z6i {w:World} {y k:Nat} {b:Bool} {c:Value} (h:w.cell? ⟨y,k,none⟩=some c) (hf:w.frozen? ⟨y,k,none⟩=false):(storeVar 4 ⟨y,k,none⟩ (.bool b)).run Tryz.prog w= .ok () (w.setCell ⟨y,k,none⟩ (.bool b)):=by
 go_simp
theorem Z8f {w:World} {y o:Nat} {F:Nat→Value} (h:Rfn w y 32 F) (ho:o+3≤32) (f:Fl):(storeVar 97 ⟨y,o,none⟩ (.agg f.cs.toArray)).run Tryz.prog w= .ok () (w.setCells y o f.cs):=
 run_storeVar_mid w y o _ f.cs.toArray (fun j hj=>by
  have hj3:j < 3:=hj
  exact⟨by rw [h.cell (by omega)];rfl,h.fz _⟩) (by rw [Z2e.size];rfl) (all_oneCell_toArray f.cs_one)
set_option maxHeartbeats 1000000 in
theorem Z6b {w:World} {y:Nat} {t:FT} (h:Rd w y t) (x m:Int):
 Calls Tryz.prog 69 #[.pointer (some ⟨y,0,none⟩), .int .i64 x, .int .i64 m] w fun e w'=>e= .returned (.tuple #[.int .i64 (Z15 t), .int .i64 (Z19 t)])∧Rd w' y (Z0g t x m)∧Stp (fun z=>z=y) w w':=by
 go_enter Tryz.func69,Tryz.ntmps69
 go_wp2
 go_loopw [8] (fun i wr=>∃ k:Nat,k≤8∧i= .int .i64 (k:Int)∧w=wr∧∀ i,i < k→(t i).isSome=true) (fun i _=>8 - (intOf i).toNat)
 case atStart=>exact⟨0,Nat.zero_le _,rfl,rfl,fun i hi=>by omega⟩
 case round=>
  obtain⟨k,hk,rfl,rfl,hs⟩:=hrel
  by_cases hlt:(k:Int) < 8
  · have hk8:k < 8:=by omega
    have a0:(0:Int)≤(k:Int):=by omega
    have c0:=h.in hk8
    cases ht:t k with
    | none=>
      have hfr:fdFr t=k:=Z4b (by omega) hs (.inr ht)
      have e1:Z15 t=(k:Int):=by unfold Z15;rw [if_neg (by omega),hfr]
      have e2:Z19 t=0:=by unfold Z19;rw [if_neg (by omega)]
      have e3:Z0g t x m=fdUp t k (some ⟨x,0,m⟩):=by unfold Z0g;rw [if_neg (by omega),hfr]
      have E:Hid (Z15 t=(k:Int)∧Z19 t=0∧Z0g t x m=fdUp t k (some ⟨x,0,m⟩)):=⟨e1,e2,e3⟩
      rw [ht]at c0
      simp only [Option.isSome_none]at c0
      have f0:=h.fz k
      clear hfr e1 e2 e3 hs
      have Hd:Rd w.drew y t:=h.later ((Below.refl _ w).drew)
      have hp:=Hd.put hk8 ⟨x,0,m⟩
      obtain⟨F,hF, -⟩:=id Hd
      have g1:=Hd.in hk8
      have g2:=Hd.fz k
      have R1:=hF.set k (.bool true) rfl
      have R2:=hF.three (8+k * 3) ⟨x,0,m⟩ (by omega)
      have g3:=R2.cell (i:=k) (by omega)
      have g4:=R2.fz k
      go_wp2_with fail
      refine wp_region_held_drew (S:=fun _=>True) (by kernel_rfl) trivial (fun hHeld=>?_)
      refine tl 0 (.pointer (some ⟨y,0,none⟩)) rfl ?_
      try simp only [z]
      refine tl 1 (.int .i64 (k:Int)) rfl ?_
      try simp only [z]
      refine tl 2 (.pointer (some ⟨y,0,none⟩)) rfl ?_
      try simp only [z]
      refine tl 3 (.int .i64 (k:Int)) rfl ?_
      try simp only [z]
      refine tl 4 (.int .i64 x) rfl ?_
      try simp only [z]
      refine tl 5 (.int .i64 m) rfl ?_
      try simp only [z]
      refine tl 6 (.agg #[.int .i64 x, .int .i64 0, .int .i64 m]) rfl ?_
      try simp only [z]
      refine tl 7 (.pointer (some ⟨y,0,none⟩)) rfl ?_
      try simp only [z]
      refine tl 8 (.pointer (some ⟨y,0,none⟩)) rfl ?_
      try simp only [z]
      refine tl 9 (.pointer (some ⟨y,k,none⟩)) rfl ?_
      try simp only [z]
      refine tl 11 (.pointer (some ⟨y,0,none⟩)) rfl ?_
      try simp only [z]
      refine tl 12 (.pointer (some ⟨y,8,none⟩)) rfl ?_
      try simp only [z]
      refine rd 10 rfl (fun K hK=>?_)
      first
      | refine Z5n 4 ⟨y,k,none⟩ (.bool true) _ rfl _ _ rfl (by rfl) (by rfl) (Z6i g1 g2) ?_
      | refine Z5n 4 ⟨y,k,none⟩ (.bool true) _ rfl _ _ rfl (by rfl) (by rfl) (Z6i g3 g4) ?_
      refine hK.out _ _ (trivial) (fun hHeld=>?_)
      clear hK K
      try simp only [Act.put]
      refine tl 13 (.pointer (some ⟨y,8+k * 3,none⟩)) rfl ?_
      try simp only [z]
      refine rd 14 rfl (fun K hK=>?_)
      first
      | refine Z5n 97 ⟨y,8+k * 3,none⟩ (.agg (Fl.mk x 0 m).cs.toArray) _ rfl _ _ rfl (by rfl) (by rfl) (Z8f R1 (by omega) _) ?_
      | refine Z5n 97 ⟨y,8+k * 3,none⟩ (.agg (Fl.mk x 0 m).cs.toArray) _ rfl _ _ rfl (by rfl) (by rfl) (Z8f hF (by omega) _) ?_
      refine hK.out _ _ (trivial) (fun hHeld=>?_)
      clear hK K
      try simp only [Act.put]
      refine wpAnyH_done (by kernel_rfl) ?_ _
      all_goals
       go_wp2
       go_returns
       obtain⟨e1,e2,e3⟩:=E.out
       rw [e1,e2,e3]
       refine⟨by simp,?_,?_⟩
       · first | exact hp.1 | exact hp.2
       · first | exact((Stp.refl (fun z=>z=y) w).drew.setCell (p:=⟨y,k,none⟩) (.inl rfl) _).trans (Z3a _ _ _ _) | exact((Stp.refl (fun z=>z=y) w).drew.trans (Z3a _ _ _ _)).setCell (p:=⟨y,k,none⟩) (.inl rfl) _
    | some f=>
      rw [ht]at c0
      simp only [Option.isSome_some]at c0
      have hs':∀ i,i < k+1→(t i).isSome=true:=fun i hi=>by
       by_cases e:i=k
       · subst e;rw [ht];rfl
       · exact hs i (by omega)
      clear hs
      go_wp2
      go_roundw
      case rel=>exact⟨k+1,by omega,by go_num,by simp,hs'⟩
      case measure=>simp [intOf];omega
  · have hk8:k=8:=by omega
    subst hk8
    have hfr:fdFr t=8:=Z4b (Nat.le_refl _) hs (.inl rfl)
    have e1:Z15 t=0:=by unfold Z15;rw [if_pos hfr]
    have e2:Z19 t=47:=by unfold Z19;rw [if_pos hfr]
    have e3:Z0g t x m=t:=by unfold Z0g;rw [if_pos hfr]
    have E:Hid (Z15 t=0∧Z19 t=47∧Z0g t x m=t):=⟨e1,e2,e3⟩
    clear hfr e1 e2 e3 hs
    go_wp2
    go_returns
    obtain⟨e1,e2,e3⟩:=E.out
    rw [e1,e2,e3]
    exact⟨by simp,h,Stp.refl _ _⟩
end Go.Proofs.YtdnjddpfcgginaaGreat
