/-
  Texts of my own, joined: no statement is proved here.
-/
import Derived.Deep.CutBlock
import Derived.Deep.DeepCutAuto
import Derived.Lib.Walk
import Derived.Test.YtdnjddpfcgginaaGreatKar
set_option linter.unusedSimpArgs false
set_option linter.unusedVariables false
namespace Go.Proofs.YtdnjddpfcgginaaGreat
open Go.ChangeShapes Go.WideShapes Go.ChangeAt Go.RowKit
set_option maxRecDepth 100000
theorem Zf1:(Tryz.prog.info? 5).map (fun i=>(i.zero,i.size,i.bytes))=some (some (.int .u8 0),1,1):=by kernel_rfl
theorem Zby {w:World} {v:Value} {n m B:Nat} {xs:List Value} (ty:TypeId) (h0:w.ownsRow 0 5 1 v n xs) (hN:New B v) (xa:Option Addr) (c:Nat) (news:List Value) (hl:news.length=m * 1) (hnil:xa=none→m=0∧c=0) (hnews:∀ ad,xa=some ad→∀ j u,news[j]? =some u→w.cell? (ad.add j)=some u) (h1:∀ u ∈ news,u.oneCell'=true) (h63:n+m≤maxLen) (hby:(n+m) * 1≤140737488355328) (hB:B≤w.heap.size):
 ∃ v' w',(Builtin.append_ #[29,29] ty #[v, .slice xa m c]).run Tryz.prog w= .ok v' w'∧Apd w B 5 1 v n m (xs++news) v' w':=by
 obtain⟨i0,hi,hz0,hz1,hz2⟩:=info_parts Zf1
 cases xa with
 | none=>
   obtain⟨rfl,rfl⟩:=hnil rfl
   obtain rfl:news= []:=List.eq_nil_of_length_eq_zero (by rw [hl,Nat.zero_mul])
   have hrun:=run_append_owned_none (P:=Tryz.prog) (w:=w) 0 29 ty 5 i0 1 elB.und hi v n xs h0
   exact⟨v,w,hrun,by simpa using h0,hN, .inl rfl,Stp.refl _ _,by simp⟩
 | some ad=>
   obtain⟨v',w',hr,h2,h3,h4,h5⟩:=run_append_own_at (P:=Tryz.prog) w B 29 ty 5 i0 (.int .u8 0) 1 1 elB.und hi hz0 hz1 hz2 rfl (by omega) v n xs (Z9k h0 hN) ad m c news hl (hnews ad rfl) h1 h63 hby hB
   have hlt:=h2.lt
   refine⟨v',w',hr,Z4k h2,fun r hr=>(hlt r hr).1,?_,Stp.of_grown h3 (fun x e=> .inl e),h4⟩
   rcases h5 with e5 | e5
   · exact .inl e5
   · exact .inr ⟨e5,(hlt _ e5).2⟩
theorem Z7f {ops:Array Oper} {rest:List Oper} {o:Oper} {a:Act} {w:World} {Q:Exit→Act→World→Prop} {v:Value} {n m:Nat} {xs:List Value} (B:Nat) (hgd:o.guard=none) (s x:Operand) (ho:o.op= .call { callee:= .builtin .append,args:=#[s,x],argTypes:=#[29,29]}) (hs:a.eval s=v) (h0:w.ownsRow 0 5 1 v n xs) (hN:New B v) (xa:Option Addr) (c:Nat) (news:List Value) (hx:a.eval x= .slice xa m c) (hl:news.length=m * 1) (hnil:xa=none→m=0∧c=0) (hnews:∀ ad,xa=some ad→∀ j u,news[j]? =some u→w.cell? (ad.add j)=some u) (h1:∀ u ∈ news,u.oneCell'=true) (h63:n+m≤maxLen) (hby:(n+m) * 1≤140737488355328) (hB:B≤w.heap.size)
 (h:∀ v' w',Apd w B 5 1 v n m (xs++news) v' w'→wpList Tryz.prog ops Q rest (a.put o.dst v') w'):wpList Tryz.prog ops Q (o::rest) a w:=by
 have hw:Region.wanted o (yielded ops a.tmps)=true:=by simp [Region.wanted,hgd]
 obtain⟨v',w',hr,hA⟩:=Zby o.type h0 hN xa c news hl hnil hnews h1 h63 hby hB
 refine Z0z hw v' w' ?_ (h v' w' hA)
 simp only [execOp,ho,resolve,invoke,builtin,Sem.run_bind,Sem.run_pure,Result.andThen_ok,List.map_toArray,List.map_cons,List.map_nil,hs,hx,hr]
set_option maxRecDepth 100000 in
set_option maxHeartbeats 2000000 in
theorem Z69 {w:World} {s:Sv} {l:List Int} (h:BsS w s l) (hl:l.length * 1≤reachBytes):
 Calls Tryz.prog 28 #[.slice s.a s.n s.c] w fun e w'=>∃ s':Sv,e= .returned (.slice s'.a s'.n s'.c)∧BsS w' s' l∧InE (fun x=>w.heap.size≤x∧x < w'.heap.size) s'∧Below w.heap.size w w':=by
 have hlen:l.length=s.n:=h.len
 have h63:0+l.length≤maxLen:=by have:=h.le;have:=h.cap;omega
 have h8:(0+l.length) * 1≤140737488355328:=by rw [Nat.zero_add];exact Nat.le_trans hl (Nat.le_of_lt reachBytes_lt)
 have hcs:=h.cells
 have qnB:∀ (w:World) (a:Option Addr) (n c n' c':Nat),(binOp .eql 29 (.slice a n c) (.slice none n' c')).run Tryz.prog w= .ok (.bool a.isNone) w:=fun w a n c n' c'=>Lib.run_eql_slice_nil w _ _ a n c n' c' elB.und
 have qnI:∀ (w:World) (a:Option Addr) (n c n' c':Nat),(binOp .eql 29 (.slice a n c) (.slice none n' c')).run Tryz.prog w= .ok (.bool a.isNone) w:=fun w a n c n' c'=>Lib.run_eql_slice_nil w _ _ a n c n' c' elB.und
 have hz:=h.zero
 have hby:=h.byte
 obtain⟨sa,sn,sc⟩:=s
 simp only at hlen hcs hz ⊢
 subst hlen
 have fin:∀ v' w',Apd (w.alloc (.cells #[] 5)) w.heap.size 5 1 (.slice (some ⟨w.heap.size,0,none⟩) 0 0) 0 l.length ([]++l.map (Value.int .u8)) v' w'→
  ∃ s':Sv,Ending.returned v'= .returned (.slice s'.a s'.n s'.c)∧BsS w' s' l∧InE (fun x=>w.heap.size≤x∧x < w'.heap.size) s'∧Below w.heap.size w w':=by
  intro v' w' hA
  obtain⟨h1,h2,h3,h4,h5⟩:=hA
  rw [Nat.zero_add,List.nil_append]at h1
  obtain⟨s',rfl,e2,e3,e4⟩:=Za7 h1 hby h2
  refine⟨s',rfl,e3,e4,?_⟩
  have k0:Stp (fun _=>False) w (w.alloc (.cells #[] 5)):=Stp.of_alloc _ _ _
  exact(k0.next h4 (F':=fun x=>some w.heap.size=some x) (fun x e=> .inr (by injection e with e;omega))).below (Nat.le_refl _) (fun x e=>e.elim)
 have q0:(w.alloc (.cells #[] 5)).ownsRow 0 5 1 (.slice (some ⟨w.heap.size,0,none⟩) 0 0) 0 []:=World.ownsRow_made w #[] 0 (Nat.zero_le _) (Nat.zero_le _) rfl
 have hN:New w.heap.size (.slice (some ⟨w.heap.size,0,none⟩) 0 0):=fun r e=>by
  have:w.heap.size=r:=by simpa [Value.ownBlock]using e
  omega
 have hcs':∀ ad,sa=some ad→∀ j u,(l.map (Value.int .u8))[j]? =some u→(w.alloc (.cells #[] 5)).cell? (ad.add j)=some u:=fun ad e j u hu=>by
  have:=hcs ad e j u hu
  rw [((Below.refl _ w).alloc (Nat.le_refl _) (.cells #[] 5)).cell (World.block_lt_of_cell? w _ this)];exact this
 cases sa with
 | none=>
   obtain⟨z1,z2,rfl⟩:=hz rfl
   subst z2
   simp only [List.length_nil]at fin hcs' ⊢
   go_enter Tryz.func28,Tryz.ntmps28
   go_wp2_with (first
    | (refine Z7f w.heap.size rfl _ _ (by rfl) (by rfl) q0 hN none 0 [] (by rfl) (by simp) (fun e=>⟨rfl,rfl⟩) (fun ad e=>by cases e) (fun u hu=>by cases hu) (by simp) (by simp) (by simp) ?_;intro v' w' hA;obtain⟨s',e1,e2⟩:=fin v' w' hA;injection e1 with e1;subst e1))
   go_returns
   exact⟨s',rfl,e2⟩
 | some ad=>
   go_enter Tryz.func28,Tryz.ntmps28
   go_wp2_with (first
    | (refine Z7f w.heap.size rfl _ _ (by rfl) (by rfl) q0 hN (some ad) sc (l.map (Value.int .u8)) (by rfl) (by simp) (fun e=>by cases e) hcs' (fun u hu=>by obtain⟨x,_,rfl⟩:=List.mem_map.1 hu;rfl) h63 h8 (by simp) ?_;intro v' w' hA;obtain⟨s',e1,e2⟩:=fin v' w' hA;injection e1 with e1;subst e1))
   go_returns
   exact⟨s',rfl,e2⟩
def fewO (o:Oz):Oz:=⟨o.k,o.p.take 200,o.q.take 200,o.fd,o.n,o.off,o.fl,if o.d.length≤4096 then o.d.take 500 else o.d⟩
theorem Z74 (l:List UInt8) (k:Nat):l.take (min l.length k)=l.take k:=by
 by_cases h:l.length≤k
 · rw [Nat.min_eq_left h,List.take_length,List.take_of_length_le h]
 · rw [Nat.min_eq_right (by omega)]
theorem Z7s {o:Oz} (h:o.wfn) (hb:∀ b ∈ o.d,0≤b∧b≤255):(fewO o).wfo:=by
 refine⟨h.k,h.fd,h.n,h.off,h.fl,?_,?_,?_⟩
 · show(o.p.take 200).length≤5000;simp;omega
 · show(o.q.take 200).length≤5000;simp;omega
 · intro b hb'
   unfold fewO at hb'
   simp only at hb'
   split at hb'
   · exact hb b (List.mem_of_mem_take hb')
   · exact hb b hb'
theorem Zb5 {fn:Func} {p:Tmp} {tmps:Array Value} {w:World} {g T n:Nat} {z cs:List Value} (hT:Srt T n z) (h:fn.results=#[.cell p T]) (hp:tmps.getD p undef= .pointer (some ⟨g,0,none⟩)) (hR:Cs w g cs) (hl:cs.length=n):(results fn tmps).run Tryz.prog w= .ok (.agg cs.toArray) w:=by
 have hp':tmps[p]?.getD undef= .pointer (some ⟨g,0,none⟩):=by simpa using hp
 simp [results,h,hp',asAddr,Z44 hT hR hl]
set_option maxHeartbeats 4000000 in
theorem Z96 {w:World} {o:Oz} {s:Sv} (hs:BsS w s o.d) (hl:o.d.length≤reachBytes):
 Calls Tryz.prog 9 #[.agg (opC o s).toArray] w fun e w'=>∃ s',e= .returned (.agg (opC (fewO o) s').toArray)∧BsS w' s' (fewO o).d∧InE (fun x=>w.heap.size≤x) s'∧Below w.heap.size w w':=by
 have hln:=hs.len
 obtain⟨m1,hm1⟩:∃ m,m=min o.p.length 200:=⟨_,rfl⟩
 obtain⟨m2,hm2⟩:∃ m,m=min o.q.length 200:=⟨_,rfl⟩
 have z1:=Z1t o.p
 have z2:=Z1t o.q
 have e1:min (o.p.length:Int) 200=(m1:Int):=by omega
 have e2:min (o.q.length:Int) 200=(m2:Int):=by omega
 have e1':(if (200:Int) < (o.p.length:Int)then(200:Int)else(o.p.length:Int))=(m1:Int):=by split<;>omega
 have e2':(if (200:Int) < (o.q.length:Int)then(200:Int)else(o.q.length:Int))=(m2:Int):=by split<;>omega
 have b1:(m1:Int)≤(o.p.length:Int):=by omega
 have b2:(m2:Int)≤(o.q.length:Int):=by omega
 have b10:(0:Int)≤(m1:Int):=by omega
 have b20:(0:Int)≤(m2:Int):=by omega
 have x1:=Z9n o.p m1
 have x2:=Z9n o.q m2
 rw [hm1,Z74,← hm1]at x1
 rw [hm2,Z74,← hm2]at x2
 clear hm1 hm2
 obtain⟨sa,sn,sc⟩:=s
 go_enter Tryz.func9,Tryz.ntmps9
 go_upto_region 1 with(first
  | (refine Z05 (by rfl) _ (by rfl) o ⟨sa,sn,sc⟩ (by rfl) ?_;intro g1 w1 z3 z4 r1 b3)
  | (refine Z1i 37 8 _ Z0r (by rfl) (by rfl) ?_;intro g2 w2 z5 z6 r2 b4
     have Bc:=Z00q b3 b4 (Nat.le_refl _)
     replace r1:=r1.later b4
     have c1:=r1.cell 1 _ rfl
     have c2:=r1.cell 2 _ rfl))
 simp only [Act.put,List.setIfInBounds_toArray,List.set_cons_zero,List.set_cons_succ]
 go_cut [] (fun wx=>Cs wx g1 (opC ⟨o.k,o.p.take 200,o.q.take 200,o.fd,o.n,o.off,o.fl,o.d⟩ ⟨sa,sn,sc⟩)∧Stp (fun x=>x=g1) w2 wx)
 case first=>
  have f1:=r1.frozen 1
  have f2:=r1.frozen 2
  go_region
  all_goals (
   go_wp2_with fail
   go_meet
   exact⟨((r1.set 1 (.string (str (o.p.take 200))) rfl).set 2 (.string (str (o.q.take 200))) rfl).later (Below.refl _ _).drew,(((Stp.refl (fun x=>x=g1) w2).setCell (p:=⟨g1,1,none⟩) (.inl rfl) _).setCell (p:=⟨g1,2,none⟩) (.inl rfl) _).drew⟩)
 case rest=>
  obtain⟨r1',s1⟩:=hcut
  have r2':=r2.step s1 (fun e=>by omega)
  have lg:=r1.lt
  clear r1 c1 c2 x1 x2 e1 e2 e1' e2' b1 b2 b10 b20 z1 z2 r2
  have Bx:Below w.heap.size w wc:=((Stp.of_below Bc (fun _=>False)).next s1 (fun x e=> .inr (by omega))).below (Nat.le_refl _) (fun x e=>e.elim)
  have hsx:=hs.later Bx
  have c7:_=some (Value.slice sa sn sc):=r1'.cell 7 _ rfl
  have hle:=hs.le
  simp only at hln hle
  have fin:∀ {wy wz:World} {s':Sv} {dd:List Int},BsS wy s' dd→dd=(fewO o).d→Below w.heap.size w wy→InE (fun x=>w.heap.size≤x∧x < wy.heap.size) s'→Stp (fun x=>x=g1∨x=g2) wy wz→(∀ x,s'.a=some x→0 < s'.n→x.block≠g1∧x.block≠g2)→BsS wz s' (fewO o).d∧InE (fun x=>w.heap.size≤x) s'∧Below w.heap.size w wz:=by
   intro wy wz s' dd h1 h2 h3 h4 h5 h6
   subst h2
   refine⟨BsS.step (E:=fun x=>x≠g1∧x≠g2) h1 h5 (fun ad e hn=>h6 ad e hn) (fun x hx e=>by rcases e with e | e<;>omega),h4.mono (fun x hx=>hx.1),((Stp.of_below h3 (fun _=>False)).next h5 (fun x e=> .inr (by rcases e with e | e<;>omega))).below (Nat.le_refl _) (fun x e=>e.elim)⟩
  by_cases h4:o.d.length≤4096
  · have eF:(fewO o).d=o.d.take 500:=if_pos h4
    have a1:(sn:Int)≤4096:=by omega
    obtain⟨m,hm⟩:∃ m,m=min sn 500:=⟨_,rfl⟩
    have e1:min (sn:Int) 500=(m:Int):=by omega
    have e1':(if (500:Int) < (sn:Int)then(500:Int)else(sn:Int))=(m:Int):=by split<;>omega
    have b1:(m:Int)≤(sc:Int):=by omega
    have b0:(0:Int)≤(m:Int):=by omega
    have hcut:BsS wc ⟨sa,m,sc⟩ (o.d.take 500):=by rw [hm];exact BsS.cut hsx 500
    have f7:=r1'.frozen 7
    have hinE:∀ (u:World),BsS u ⟨sa,m,sc⟩ (o.d.take 500)→True:=fun _ _=>trivial
    have hnb:InE (fun x=>x < w.heap.size) ⟨sa,sn,sc⟩:=fun ad e hn=>by
     obtain⟨b,o',e2,hc⟩:=hs.cell hn
     simp only at e e2
     rw [e]at e2;injection e2 with e2;subst e2
     exact World.block_lt_of_cell? w _ (hc 0 hn)
    have k7:Stp (fun x=>x=g1) wc (wc.setCell ⟨g1,7,none⟩ (.slice sa m sc)):=(Stp.refl (fun x=>x=g1) wc).setCell (p:=⟨g1,7,none⟩) (.inl rfl) _
    have r17:=r1'.set 7 (.slice sa m sc) rfl
    have hc7:BsS (wc.setCell ⟨g1,7,none⟩ (.slice sa m sc)) ⟨sa,m,sc⟩ (o.d.take 500):=BsS.step (E:=fun x=>x < w.heap.size) hcut k7 (fun ad e hn=>hnb ad e (by simp only at hn ⊢;omega)) (fun x hx e=>by omega)
    have r27:=r2'.step k7 (fun e=>by omega)
    have lx:=Bx.size
    subst hm
    go_wp2_with (first
     | (go_at_call 28;refine(Z69 (s:=⟨sa,min sn 500,sc⟩) hc7 (by simp;omega)).mono ?_;rintro e w8 ⟨s8,rfl,h8,i8,b8⟩
        have r18:=r17.later b8
        have r28:=r27.later b8
        have f8:=r18.frozen 7
        have c8:=r18.cell 7 _ rfl
        have r19:Cs (w8.setCell ⟨g1,7,none⟩ s8.v) g1 (opC (fewO o) s8):=by
         have:=r18.set 7 s8.v rfl
         exact this
        have k8:Stp (fun x=>x=g1) w8 (w8.setCell ⟨g1,7,none⟩ s8.v):=(Stp.refl (fun x=>x=g1) w8).setCell (p:=⟨g1,7,none⟩) (.inl rfl) _
        have r29:=r28.step k8 (fun e=>by omega))
     | (refine Z0k 37 8 _ Z0r (by rfl) _ (by rfl) g1 (by rfl) (opC (fewO o) s8) r19 rfl ?_)
     | (refine Z1e 37 8 _ Z0r (by rfl) _ _ (by rfl) g2 (by rfl) (opC (fewO o) s8) (by rfl) rfl (Z4e _ _) _ r29 rfl ?_;intro w9 r9 s9))
    have lg2:=r2'.lt
    have lb8:=b8.size
    have hz:=k7.size
    exact bodyPost_ret (Zb5 Z0r Tryz.results9 rfl r9 rfl) rfl ⟨s8,rfl,fin h8 eF.symm (Z00q (((Stp.of_below Bx (fun _=>False)).next k7 (fun x e=> .inr (by omega))).below (Nat.le_refl _) (fun x e=>e.elim)) b8 (Nat.le_refl _)) (i8.mono (fun x hx=>⟨by omega,hx.2⟩)) ((k8.mono (fun x e=> .inl (.inl e))).next s9 (fun x e=> .inl (.inr e))) (fun ad e hn=>by have h9:=(i8 ad e hn).1;constructor<;>omega)⟩
  · have eF:(fewO o).d=o.d:=if_neg h4
    have a1:¬(sn:Int)≤4096:=by omega
    have lx:=Bx.size
    go_wp2_with (first
     | (go_at_call 28;refine(Z69 (s:=⟨sa,sn,sc⟩) hsx (by omega)).mono ?_;rintro e w8 ⟨s8,rfl,h8,i8,b8⟩
        have r18:=r1'.later b8
        have r28:=r2'.later b8
        have f8:=r18.frozen 7
        have c8:=r18.cell 7 _ rfl
        have r19:Cs (w8.setCell ⟨g1,7,none⟩ s8.v) g1 (opC (fewO o) s8):=by
         have:=r18.set 7 s8.v rfl
         exact this
        have k8:Stp (fun x=>x=g1) w8 (w8.setCell ⟨g1,7,none⟩ s8.v):=(Stp.refl (fun x=>x=g1) w8).setCell (p:=⟨g1,7,none⟩) (.inl rfl) _
        have r29:=r28.step k8 (fun e=>by omega))
     | (refine Z0k 37 8 _ Z0r (by rfl) _ (by rfl) g1 (by rfl) (opC (fewO o) s8) r19 rfl ?_)
     | (refine Z1e 37 8 _ Z0r (by rfl) _ _ (by rfl) g2 (by rfl) (opC (fewO o) s8) (by rfl) rfl (Z4e _ _) _ r29 rfl ?_;intro w9 r9 s9))
    have lg2:=r2'.lt
    have lb8:=b8.size
    exact bodyPost_ret (Zb5 Z0r Tryz.results9 rfl r9 rfl) rfl ⟨s8,rfl,fin h8 eF.symm (Z00q Bx b8 (Nat.le_refl _)) (i8.mono (fun x hx=>⟨by omega,hx.2⟩)) ((k8.mono (fun x e=> .inl (.inl e))).next s9 (fun x e=> .inl (.inr e))) (fun ad e hn=>by have h9:=(i8 ad e hn).1;constructor<;>omega)⟩
set_option maxRecDepth 100000
theorem Zbh {w:World} {s t:Sv} {l:List Int} (hb:BsS w s l) (hb':BsS w t l):
 Calls Tryz.prog 39 #[.slice s.a s.n s.c, .slice t.a t.n t.c] w fun e w'=>e= .returned (.bool true)∧w=w':=by
 obtain⟨sa,sn,sc⟩:=s
 obtain⟨ta,tn,tc⟩:=t
 have q:=Bs.convert (P:=Tryz.prog) hb 29 5 9 Tryz.underlying29 Tryz.underlying5 Tryz.underlying9
 have q':=Bs.convert (P:=Tryz.prog) hb' 29 5 9 Tryz.underlying29 Tryz.underlying5 Tryz.underlying9
 go_enter Tryz.func39,Tryz.ntmps39
 go_wp2
 go_returns
 exact⟨by simp,rfl⟩
set_option maxHeartbeats 4000000 in
theorem Zch{w:World} {U V:Nat→Prop} {g B n y:Nat} {q:Int→Nat} {Z:Tz} (h:Tx w U g q B Z) (hd:Dx w V y Z) (hz:Z.ok n) (hn:n≤900) (hB:B≤900) {i:Int} (hi:wfi i) (hk:(Z.nd i).k=0):
 Calls Tryz.prog 12 #[.pointer (some ⟨g,0,none⟩), .pointer (some ⟨y,0,none⟩), .int .i64 i] w fun e w'=>e= .returned (.bool true)∧Below w.heap.size w w':=by
 obtain⟨x,hx⟩:∃ x,Z.nd i=x:=⟨_,rfl⟩
 obtain⟨fb,r,c,A,F,sd,sn,H,hUU⟩:=hd
 have hxk:x.k=0:=by rw [← hx];exact hk
 rw [hx]at hk
 by_cases h1:i < 1
 · go_enter Tryz.func12,Tryz.ntmps12
   go_wp2_with (first
    | (go_at_call 14;refine(Z4x h hz hn hB hi).mono ?_;rintro e w1 ⟨s,t,rfl,hs,ht,b1⟩
       rw [hx]at hs ht)
    | (refine Z1i 48 4 _ Z1d (by rfl) (by rfl) ?_;intro g1 w2 z1 z2 r1 b2
       have B2:=Z00q b1 b2 (Nat.le_refl _))
    | (refine Z1e 48 4 _ Z1d (by rfl) _ _ (by rfl) g1 (by rfl) (tnC x s t.v) (by rfl) rfl (Z27 _ _ rfl) _ r1 rfl ?_;intro w3 r3 s3
       have B3:Below w.heap.size w w3:=((Stp.of_below B2 (fun _=>False)).next s3 (fun x e=> .inr (by have:=b1.size;omega))).below (Nat.le_refl _) (fun x e=>e.elim)
       have k0:=r3.cell 0 _ rfl
       rw [hxk]at k0
       have k1:=r3.cell 1 _ rfl
       have k2:=r3.cell 2 _ rfl
       have k3:=r3.cell 3 _ rfl
       have y0:=(H.later B3).c0))
   go_returns
   exact⟨rfl,B3⟩
 · by_cases h2:i < (Z.N.length:Int)
   · obtain⟨ki,rfl⟩:∃ ki:Nat,i=(ki:Int):=⟨i.toNat,by omega⟩
     have hki:ki < Z.N.length:=by omega
     have a2:¬(Z.N.length:Int)≤(ki:Int):=by omega
     have a0:(0:Int)≤(ki:Int):=by omega
     go_enter Tryz.func12,Tryz.ntmps12
     go_wp2_with (first
      | (go_at_call 14;refine(Z4x h hz hn hB hi).mono ?_;rintro e w1 ⟨s,t,rfl,hs,ht,b1⟩
         rw [hx]at hs ht)
      | (refine Z1i 48 4 _ Z1d (by rfl) (by rfl) ?_;intro g1 w2 z1 z2 r1 b2
         have B2:=Z00q b1 b2 (Nat.le_refl _))
      | (refine Z1e 48 4 _ Z1d (by rfl) _ _ (by rfl) g1 (by rfl) (tnC x s t.v) (by rfl) rfl (Z27 _ _ rfl) _ r1 rfl ?_;intro w3 r3 s3
         have B3:Below w.heap.size w w3:=((Stp.of_below B2 (fun _=>False)).next s3 (fun x e=> .inr (by have:=b1.size;omega))).below (Nat.le_refl _) (fun x e=>e.elim)
         have k0:=r3.cell 0 _ rfl
         rw [hxk]at k0
         have yk:=(H.later B3).nk hki
         rw [hx,hxk]at yk
         have k1:=r3.cell 1 _ rfl
         have k2:=r3.cell 2 _ rfl
         have k3:=r3.cell 3 _ rfl
         have y0:=(H.later B3).c0))
     go_returns
     exact⟨rfl,B3⟩
   · have a2:(Z.N.length:Int)≤i:=by omega
     go_enter Tryz.func12,Tryz.ntmps12
     go_wp2_with (first
      | (go_at_call 14;refine(Z4x h hz hn hB hi).mono ?_;rintro e w1 ⟨s,t,rfl,hs,ht,b1⟩
         rw [hx]at hs ht)
      | (refine Z1i 48 4 _ Z1d (by rfl) (by rfl) ?_;intro g1 w2 z1 z2 r1 b2
         have B2:=Z00q b1 b2 (Nat.le_refl _))
      | (refine Z1e 48 4 _ Z1d (by rfl) _ _ (by rfl) g1 (by rfl) (tnC x s t.v) (by rfl) rfl (Z27 _ _ rfl) _ r1 rfl ?_;intro w3 r3 s3
         have B3:Below w.heap.size w w3:=((Stp.of_below B2 (fun _=>False)).next s3 (fun x e=> .inr (by have:=b1.size;omega))).below (Nat.le_refl _) (fun x e=>e.elim)
         have k0:=r3.cell 0 _ rfl
         rw [hxk]at k0
         have k1:=r3.cell 1 _ rfl
         have k2:=r3.cell 2 _ rfl
         have k3:=r3.cell 3 _ rfl
         have y0:=(H.later B3).c0))
     go_returns
     exact⟨rfl,B3⟩
set_option maxRecDepth 100000
section
variable {ops : Array Oper} {o : Oper} {a : Act} {S : World → Prop}
theorem Z75 (hw:Region.wanted o (yielded ops a.tmps)=true) (x:Operand) (ho:o.op= .load 66 x) (b i:Nat) (hx:a.eval x= .pointer (some ⟨b,i,none⟩)) (e:Ent) (hS:∀ w,S w→w.cell? ⟨b,i,none⟩=some (.int .i64 e.n)∧w.cell? ⟨b,i+1,none⟩=some (.string (str e.s))):
 YieldsIf Tryz.prog ops S o (.agg e.c2.toArray) a:=by
 obtain⟨d,h1,h2⟩:=Z7a.und
 refine yieldsIf_load_mid hw 66 x ho b i hx e.c2 _ (fun w h=>?_) h1 h2 (by rw [Z7a.size];rfl)
 intro j v hv
 unfold Ent.c2 at hv
 match j,hv with
 | 0,hv=>simp at hv;subst hv;exact(hS w h).1
 | 1,hv=>simp at hv;subst hv;exact(hS w h).2
 | j+2,hv=>simp at hv
end
set_option maxHeartbeats 4000000 in
theorem Zaz {w:World} {U V:Nat→Prop} {g B n y:Nat} {q:Int→Nat} {Z:Tz} (h:Tx w U g q B Z) (hd:Dx w V y Z) (hz:Z.ok n) (hn:n≤900) (hB:B≤900) {i:Int} (hi:wfi i) (hk:(Z.nd i).k≠0):
 Calls Tryz.prog 12 #[.pointer (some ⟨g,0,none⟩), .pointer (some ⟨y,0,none⟩), .int .i64 i] w fun e w'=>e= .returned (.bool true)∧Below w.heap.size w w':=by
 obtain⟨x,hx⟩:∃ x,Z.nd i=x:=⟨_,rfl⟩
 obtain⟨fb,r,c,A,F,sd,sn,H,hUU⟩:=hd
 have hil:=hz.live hk
 obtain⟨ki,rfl⟩:∃ ki:Nat,i=(ki:Int):=⟨i.toNat,by omega⟩
 have hki:ki < Z.N.length:=by have:=hil.2;simpa using this
 have h1:¬(ki:Int) < 1:=by omega
 have a2:¬(Z.N.length:Int)≤(ki:Int):=by omega
 have a3:(ki:Int) < (Z.N.length:Int):=by omega
 have a0:(0:Int)≤(ki:Int):=by omega
 have hxk:x.k≠0:=by rw [← hx];exact hk
 have qk:(x.k==0)=false:=by simpa using hxk
 have hS:=fun(u u':World) (b:Below w.heap.size w u) (s:Sv) (hs:BsS u s x.d)=>Zbh hs (show BsS u (sd ki) x.d by have:=((H.later b).dt ki hki).1;rw [Z5d,hx]at this;exact this)
 go_enter Tryz.func12,Tryz.ntmps12
 go_wp2_with (first
  | (go_at_call 14;refine(Z4x h hz hn hB hi).mono ?_;rintro e w1 ⟨s,t,rfl,hs,ht,b1⟩
     rw [hx]at hs ht)
  | (refine Z1i 48 4 _ Z1d (by rfl) (by rfl) ?_;intro g1 w2 z1 z2 r1 b2
     have B2:=Z00q b1 b2 (Nat.le_refl _))
  | (refine Z1e 48 4 _ Z1d (by rfl) _ _ (by rfl) g1 (by rfl) (tnC x s t.v) (by rfl) rfl (Z27 _ _ rfl) _ r1 rfl ?_;intro w3 r3 s3
     have B3:Below w.heap.size w w3:=((Stp.of_below B2 (fun _=>False)).next s3 (fun x e=> .inr (by have:=b1.size;omega))).below (Nat.le_refl _) (fun x e=>e.elim)
     have k0:=r3.cell 0 _ rfl
     have k1:=r3.cell 1 _ rfl
     have k2:=r3.cell 2 _ rfl
     have k3:=r3.cell 3 _ rfl
     have y0:=(H.later B3).c0
     have b13:Below w1.heap.size w1 w3:=((Stp.of_below b2 (fun _=>False)).next s3 (fun x e=> .inr (by omega))).below (Nat.le_refl _) (fun x e=>e.elim)
     have yk:=(H.later B3).nk hki
     rw [hx]at yk
     have qn:=(H.later B3).node hki
     rw [hx]at qn)
  | (refine Z31 (by rfl) _ (by rfl) r (ki * 4) (by rfl) x (sd ki) (sn ki) qn ?_)
  | (refine Z2g (by rfl) (by rfl) ?_;intro g4 w4 z5 z6 r4 b4
     have B4:=Z00q B3 b4 (Nat.le_refl _)
     have r34:=r3.later b4
     clear k0 k1 k2 k3)
  | (refine Z2h (by rfl) _ _ (by rfl) g4 (by rfl) x (sd ki) (sn ki) (by rfl) r4 ?_;intro w5 r5 s5
     have B5:Below w.heap.size w w5:=((Stp.of_below B4 (fun _=>False)).next s5 (fun x e=> .inr (by have:=B3.size;omega))).below (Nat.le_refl _) (fun x e=>e.elim)
     have r35:=r34.step s5 (fun e=>by have:=r3.lt;omega)
     have k0:=r35.cell 0 _ rfl
     have k1:=r35.cell 1 _ rfl
     have k2:=r35.cell 2 _ rfl
     have k3:=r35.cell 3 _ rfl
     have m0:=r5.cell 0 _ rfl
     have m1:=r5.cell 1 _ rfl
     have m2:=r5.cell 2 _ rfl
     have m3:=r5.cell 3 _ rfl
     have b15:Below w1.heap.size w1 w5:=((Stp.of_below (Z00q b13 b4 (Nat.le_refl _)) (fun _=>False)).next s5 (fun x e=> .inr (by have:=b13.size;omega))).below (Nat.le_refl _) (fun x e=>e.elim)
     have hs5:BsS w5 s x.d:=hs.later b15
     have ht5:=ht.later b15
     have hu5:EsS w5 (sn ki) x.nm:=by have:=((H.later B5).nm ki hki).1;rw [Z5d,hx]at this;exact this
     have tln:=ht5.len
     have ul:=hu5.len
     have qL:((t.n:Int) != ((sn ki).n:Int))=false:=by simp;omega)
  | (go_at_call 39;refine(hS w5 w5 B5 s hs5).mono ?_;rintro e u ⟨rfl,rfl⟩))
 go_loopw [10] (fun iv wr=>∃ j:Nat,iv= .int .i64 (j:Int)∧j≤x.nm.length∧Below w5.heap.size w5 wr) (fun iv _=>x.nm.length - (intOf iv).toNat)
 case atStart=>exact⟨0,rfl,Nat.zero_le _,Below.refl _ _⟩
 case round=>
  obtain⟨j,rfl,hj,bR⟩:=hrel
  have ht6:=ht5.later bR
  have hu6:=hu5.later bR
  clear k0 k1 k2 k3 m0 m1 m2 m3
  have r36:=r35.later bR
  have r6:=r5.later bR
  have m3:_=some (Value.slice (sn ki).a (sn ki).n (sn ki).c):=r6.cell 3 _ rfl
  by_cases hlt:j < x.nm.length
  · have a9:(j:Int) < ((sn ki).n:Int):=by omega
    have a7:(j:Int) < (t.n:Int):=by omega
    have a8:(0:Int)≤(j:Int):=by omega
    have a5:(j:Int)≤900:=by have:=hz.nl (ki:Int);rw [hx]at this;omega
    obtain⟨bt,et,ct⟩:=ht6.cell (by omega)
    obtain⟨bu,eu,cu⟩:=hu6.cell (by omega)
    have ct1:=ct j (by omega)
    have cu1:=cu j (by omega)
    clear ct cu
    generalize x.nm.getD j Ent.zero=en at ct1 cu1
    have hlH:Hid (j < x.nm.length):=hlt
    go_upto_region 10 with fail
    refine wp_region_held_drew (S:=fun u=>Below wr.heap.size wr u) (by kernel_rfl) (Below.refl _ _).drew (fun hHeld=>?_)
    refine tl 0 (.pointer (some ⟨g1,3,none⟩)) rfl ?_
    try simp only [z]
    refine tl 1 (.slice t.a t.n t.c) rfl ?_ (fun u hu=>by have x1:_=some (Value.slice t.a t.n t.c):=(r36.later hu).cell 3 _ rfl;go_simp)
    try simp only [z]
    refine tl 2 (.int .i64 (j:Int)) rfl ?_
    try simp only [z]
    refine tl 3 (.pointer (some ⟨bt,j * 2,none⟩)) rfl ?_ (fun u hu=>by rw [et];go_simp)
    try simp only [z]
    refine tm 4 (.agg en.c2.toArray) rfl
     (Z75 (by rfl) _ (by rfl) bt (j * 2) (by rfl) en (fun u hu=>⟨(Stp.of_below hu (fun _=>False)).cell ct1.1 id,(Stp.of_below hu (fun _=>False)).cell ct1.2 id⟩)) ?_
    try simp only [z]
    refine tl 5 (.pointer (some ⟨g4,3,none⟩)) rfl ?_
    try simp only [z]
    refine tl 6 (.slice (sn ki).a (sn ki).n (sn ki).c) rfl ?_ (fun u hu=>by have x1:_=some (Value.slice (sn ki).a (sn ki).n (sn ki).c):=(r6.later hu).cell 3 _ rfl;go_simp)
    try simp only [z]
    refine tl 7 (.int .i64 (j:Int)) rfl ?_
    try simp only [z]
    refine tl 8 (.pointer (some ⟨bu,j * 2,none⟩)) rfl ?_ (fun u hu=>by rw [eu];go_simp)
    try simp only [z]
    refine tm 9 (.agg en.c2.toArray) rfl
     (Z75 (by rfl) _ (by rfl) bu (j * 2) (by rfl) en (fun u hu=>⟨(Stp.of_below hu (fun _=>False)).cell cu1.1 id,(Stp.of_below hu (fun _=>False)).cell cu1.2 id⟩)) ?_
    try simp only [z]
    refine tl 10 (.bool false) rfl ?_ (fun u hu=>by unfold Ent.c2;go_simp)
    try simp only [z]
    refine wpAnyH_done (by kernel_rfl) ?_ _
    go_wp2_with fail
    go_roundw
    case rel=>exact⟨j+1,by go_num,hlH.out,Z00q bR hHeld (Nat.le_refl _)⟩
    case measure=>have:=hlH.out;simp [intOf];omega
  · have a9:¬(j:Int) < ((sn ki).n:Int):=by omega
    go_wp2
    go_returns
    exact⟨rfl,Z00q B5 bR (Nat.le_refl _)⟩
theorem Zay {w:World} {U V:Nat→Prop} {g B n y:Nat} {q:Int→Nat} {Z:Tz} (h:Tx w U g q B Z) (hd:Dx w V y Z) (hz:Z.ok n) (hn:n≤900) (hB:B≤900) {i:Int} (hi:wfi i):
 Calls Tryz.prog 12 #[.pointer (some ⟨g,0,none⟩), .pointer (some ⟨y,0,none⟩), .int .i64 i] w fun e w'=>e= .returned (.bool true)∧Below w.heap.size w w':=by
 by_cases hk:(Z.nd i).k=0
 · exact Zch h hd hz hn hB hi hk
 · exact Zaz h hd hz hn hB hi hk
set_option maxRecDepth 100000
def siE (p q:List UInt8):Int:=if spE p=0 then(if spE q=0 then(if spN p= []∨spN q= []then 51 else 0)else spE q)else spE p
def siB (p q:List UInt8):Bool:=if siE p q=0 then insB (spN p) (spN q)else false
set_option maxHeartbeats 2000000 in
theorem Zbj (p q:List UInt8) (hp:p.length≤5000) (hq:q.length≤5000) (w:World):
 Calls Tryz.prog 133 #[.string (str p), .string (str q)] w fun e w'=>e= .returned (.tuple #[.bool (siB p q), .int .i64 (siE p q)])∧Below w.heap.size w w':=by
 have C1:=Z1p p w hp
 have C2:=fun w'=>Z1p q w' hq
 have hl1:=Z3t p
 have hl2:=Z3t q
 by_cases h1:spE p=0
 · rw [show siE p q=if spE q=0 then(if spN p= []∨spN q= []then 51 else 0)else spE q from if_pos h1]
   by_cases h2:spE q=0
   · rw [if_pos h2]
     have e1:siE p q=if spN p= []∨spN q= []then 51 else 0:=by unfold siE;rw [if_pos h1,if_pos h2]
     by_cases h3:spN p= []
     · rw [if_pos (.inl h3)]
       have e2:siB p q=false:=by unfold siB;rw [e1,if_pos (show spN p= []∨spN q= []from .inl h3),if_neg (by decide)]
       rw [e2]
       have h30:(spN p).length=0:=by rw [h3];rfl
       clear e1 e2 h3
       go_enter Tryz.func133,Tryz.ntmps133
       go_wp2_with (first
        | (go_at_call 15;refine C1.mono ?_;rintro e w1 ⟨⟨a,N,c,rfl,hS⟩,b1⟩;clear C1;have hn1:=hS.len;subst hn1)
        | (go_at_call 15;refine(C2 _).mono ?_;rintro e w2 ⟨⟨a2,N2,c2,rfl,hS2⟩,b2⟩;clear C2))
       go_returns
       exact⟨rfl,Z00q b1 b2 (Nat.le_refl _)⟩
     · by_cases h4:spN q= []
       · rw [if_pos (.inr h4)]
         have e2:siB p q=false:=by unfold siB;rw [e1,if_pos (show spN p= []∨spN q= []from .inr h4),if_neg (by decide)]
         rw [e2]
         have h40:(spN q).length=0:=by rw [h4];rfl
         have g3:(((spN p).length:Int)==0)=false:=by simpa using h3
         clear e1 e2 h4
         go_enter Tryz.func133,Tryz.ntmps133
         go_wp2_with (first
          | (go_at_call 15;refine C1.mono ?_;rintro e w1 ⟨⟨a,N,c,rfl,hS⟩,b1⟩;clear C1;have hn1:=hS.len;subst hn1)
          | (go_at_call 15;refine(C2 _).mono ?_;rintro e w2 ⟨⟨a2,N2,c2,rfl,hS2⟩,b2⟩;clear C2;have hn3:=hS2.len;subst hn3))
         go_returns
         exact⟨rfl,Z00q b1 b2 (Nat.le_refl _)⟩
       · have hne:¬(spN p= []∨spN q= []):=fun e=>e.elim h3 h4
         rw [if_neg hne]
         have e2:siB p q=insB (spN p) (spN q):=by unfold siB;rw [e1,if_neg hne,if_pos rfl]
         rw [e2]
         have g3:(((spN p).length:Int)==0)=false:=by simpa using h3
         have g4:(((spN q).length:Int)==0)=false:=by simpa using h4
         clear e1 e2 hne
         go_enter Tryz.func133,Tryz.ntmps133
         go_wp2_with (first
          | (go_at_call 15;refine C1.mono ?_;rintro e w1 ⟨⟨a,N,c,rfl,hS⟩,b1⟩;clear C1;have hn1:=hS.len;subst hn1)
          | (go_at_call 15;refine(C2 _).mono ?_;rintro e w2 ⟨⟨a2,N2,c2,rfl,hS2⟩,b2⟩;clear C2;have hn3:=hS2.len;subst hn3)
          | (go_at_call 147;refine(Z4t (hS.later b2) hS2 (by omega) (by omega)).mono ?_;rintro e w3 ⟨rfl,b3⟩))
         go_returns
         exact⟨rfl,Z00q (Z00q b1 b2 (Nat.le_refl _)) b3 (Nat.le_refl _)⟩
   · rw [if_neg h2]
     have e2:siB p q=false:=by unfold siB siE;rw [if_pos h1,if_neg h2,if_neg h2]
     rw [e2]
     clear e2
     go_enter Tryz.func133,Tryz.ntmps133
     go_wp2_with (first
      | (go_at_call 15;refine C1.mono ?_;rintro e w1 ⟨⟨a,N,c,rfl,hS⟩,b1⟩;clear C1)
      | (go_at_call 15;refine(C2 _).mono ?_;rintro e w2 ⟨⟨a2,N2,c2,rfl,hS2⟩,b2⟩;clear C2))
     go_returns
     exact⟨by simp,Z00q b1 b2 (Nat.le_refl _)⟩
 · rw [show siE p q=spE p from if_neg h1]
   have e2:siB p q=false:=by unfold siB siE;rw [if_neg h1,if_neg h1]
   rw [e2]
   clear e2
   go_enter Tryz.func133,Tryz.ntmps133
   go_wp2_with (go_at_call 15;refine C1.mono ?_;rintro e w1 ⟨⟨a,N,c,rfl,hS⟩,b1⟩;clear C1)
   go_returns
   exact⟨by simp,b1⟩
end Go.Proofs.YtdnjddpfcgginaaGreat
