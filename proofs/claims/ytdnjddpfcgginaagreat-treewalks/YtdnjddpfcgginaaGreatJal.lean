/-
  Texts of my own, joined: no statement is proved here.
-/
import Derived.Test.YtdnjddpfcgginaaGreatJaj
import Derived.Test.YtdnjddpfcgginaaGreatJak
set_option linter.unusedSimpArgs false
set_option linter.unusedVariables false
namespace Go.Proofs.YtdnjddpfcgginaaGreat
open Go.ChangeShapes Go.WideShapes Go.ChangeAt Go.RowKit
set_option maxRecDepth 100000
theorem Z6w {w:World} {U:Nat→Prop} {g B m n:Nat} {q:Int→Nat} {Z:Tz} {x:Int→Int} (h:Tx w U g q B Z) (hz:Z.okD m n x) (hm:m≤1000) {a:Option Addr} {N c:Nat} {L:List (List UInt8)} (hS:Sts w a N c L) (hL:∀ y ∈ L,nm y=true):
 Calls Tryz.prog 40 #[.pointer (some ⟨g,0,none⟩), .slice a N c] w fun e w'=>e= .returned (.tuple #[.int .i64 (Z.wk L 1).1, .int .i64 (Z.wk L 1).2])∧Below w.heap.size w w':=by
 obtain⟨tg,mb,ob,nb,sv,H,hU⟩:=h
 have hlen:=hS.len
 have hLn:(L.length:Int)≤9223372036854775807:=by have:=hS.le;have:=hS.cap;unfold maxLen at this;omega
 subst hlen
 obtain⟨R,hR⟩:∃ R,Hid (Z.wk L 1=R):=⟨_,rfl⟩
 rw [hR.out]
 go_enter Tryz.func40,Tryz.ntmps40
 go_wp2
 go_loopw [6,14] (fun u v wr=>∃ k:Nat,k≤L.length∧v= .int .i64 (k:Int)∧∃ i,u= .int .i64 i∧(Z.nd i).k≠0∧Hid (Z.wk (L.drop k) i=R)∧Below w.heap.size w wr) (fun _ v _=>L.length - (intOf v).toNat)
 case atStart=>exact⟨0,Nat.zero_le _,rfl,1,rfl,by rw [hz.rt];decide,by rw [List.drop_zero];exact hR,Below.refl _ _⟩
 case round=>
  obtain⟨k,hk,rfl,i,rfl,hi,hW,hB⟩:=hrel
  have Hr:=H.later hB
  by_cases hkl:(k:Int) < (L.length:Int)
  · have hkl':k < L.length:=by omega
    obtain⟨bb,o,rfl,hcs⟩:=(hS.later hB).cell (show 0 < L.length by omega)
    have ck:=hcs k hkl'
    have hd:L.drop k=L.getD k []::L.drop (k+1):=by
     rw [List.drop_eq_getElem_cons hkl',List.getD_eq_getElem?_getD,List.getElem?_eq_getElem hkl'];rfl
    have hy:nm (L.getD k [])=true:=by
     rw [List.getD_eq_getElem?_getD,List.getElem?_eq_getElem hkl'];exact hL _ (List.getElem_mem _)
    have hW2:Z.wk (L.getD k []::L.drop (k+1)) i=R:=by rw [← hd];exact hW.out
    generalize L.getD k []=y at *
    have hyl:y.length≤maxLen:=by have:=(Z2f hy).2.2;unfold maxLen;omega
    have a2:(0:Int)≤(k:Int):=by omega
    have c0:=Hr.c0
    have lo:=Hr.look hi (Z12 hz hm hi)
    have n0:=Hr.n0 hi
    unfold Tz.wk at hW2
    clear hd hcs hW
    by_cases h2:(Z.nd i).k=2
    · rw [if_pos h2]at hW2
      have n3:=Hr.n3 h2
      have lo2:=(Hr.nm i h2).2.look2 hyl
      rw [h2]at n0
      by_cases h3:lk (Z.nd i).nm y=0
      · rw [if_pos h3]at hW2
        rw [h3]at lo2
        have hR2:Hid (R=(0,40)):=hW2.symm
        clear hW2 h3
        go_wp2
        go_returns
        exact⟨by rw [hR2.out];simp,hB⟩
      · rw [if_neg h3]at hW2
        have hlv:=(Z2o hz i h3).2
        have hW3:Hid _:=hW2
        clear hW2
        generalize lk (Z.nd i).nm y=j at *
        go_wp2
        go_roundw
        case rel=>exact⟨k+1,by omega,by go_num,j,rfl,hlv,hW3,hB⟩
        case measure=>simp [intOf];omega
    · rw [if_neg h2]at hW2
      have hR2:Hid (R=(0,42)):=hW2.symm
      clear hW2
      generalize (Z.nd i).k=K at *
      go_wp2
      go_returns
      exact⟨by rw [hR2.out];simp,hB⟩
  · have hk2:k=L.length:=by omega
    subst hk2
    have hW2:=hW.out
    rw [List.drop_length]at hW2
    have hR2:Hid (R=(i,0)):=by show R=(i,0);rw [← hW2];rfl
    clear hW2 hW
    go_wp2
    go_returns
    exact⟨by rw [hR2.out];simp,hB⟩
theorem Zbc {p:List UInt8} (h:spE p=0):∀ y ∈ spN p,nm y=true:=(Z5f (Z3m h).1).1
theorem Z22 {w:World} {U:Nat→Prop} {g B m n:Nat} {q:Int→Nat} {Z:Tz} {x:Int→Int} (h:Tx w U g q B Z) (hz:Z.okD m n x) (hm:m≤1000) (p:List UInt8) (hp:p.length≤5000):
 Calls Tryz.prog 13 #[.pointer (some ⟨g,0,none⟩), .string (str p)] w fun e w'=>e= .returned (.tuple #[.int .i64 (Z.wa p).1, .int .i64 (Z.wa p).2])∧Below w.heap.size w w':=by
 have hC:=Z1u p w hp
 unfold Tz.wa
 by_cases h1:spE p=0
 · rw [if_pos h1]
   have hN:=Zbc h1
   have hA:=fun w' (b:Below w.heap.size w w') a N c (hS:Sts w' a N c (spN p))=>Z6w (h.later b) hz hm hS hN
   have h1':Hid (spE p=0):=h1
   go_enter Tryz.func13,Tryz.ntmps13
   go_wp2_with (first
    | (go_at_call 15;refine hC.mono ?_;rintro e w1 ⟨⟨a,N,c,rfl,hS⟩,b1⟩;clear hC)
    | (go_at_call 40;refine(hA _ b1 _ _ _ hS).mono ?_;rintro e w2 ⟨rfl,b2⟩))
   go_returns
   exact⟨rfl,Z00q b1 b2 (Nat.le_refl _)⟩
 · rw [if_neg h1]
   go_enter Tryz.func13,Tryz.ntmps13
   go_wp2_with (go_at_call 15;refine hC.mono ?_;rintro e w1 ⟨⟨a,N,c,rfl,hS⟩,b1⟩;clear hC)
   go_returns
   exact⟨by simp,b1⟩
set_option maxRecDepth 100000
section
variable {ops : Array Oper} {rest : List Oper} {o : Oper} {a : Act} {w : World} {Q : Exit → Act → World → Prop}
theorem Z07 (hw:Region.wanted o (yielded ops a.tmps)=true) (ho:o.op= .alloc 145)
 (h:∀ g w',w.heap.size≤g→g < w'.heap.size→Cs w' g (spC none [] 0)→Below w.heap.size w w'→wpList Tryz.prog ops Q rest (a.put o.dst (.pointer (some ⟨g,0,none⟩))) w'):wpList Tryz.prog ops Q (o::rest) a w:=
 Z1o 145 3 _ Z1f hw ho h
theorem Z08 (hw:Region.wanted o (yielded ops a.tmps)=true) (y z:Operand) (ho:o.op= .store 145 y z) (g:Nat) (hx:a.eval y= .pointer (some ⟨g,0,none⟩)) (d:Option Nat) (s:List UInt8) (i:Int) (hy:a.eval z= .agg (spC d s i).toArray) (cs:List Value) (hR:Cs w g cs) (hl:cs.length=3)
 (h:∀ w',Cs w' g (spC d s i)→Stp (fun x=>x=g) w w'→wpList Tryz.prog ops Q rest (a.put o.dst undef) w'):wpList Tryz.prog ops Q (o::rest) a w:=
 Z1g 145 3 _ Z1f hw y z ho g hx (spC d s i) hy rfl (Z4l _ _ _) cs hR hl h
end
def paC (q:Int→Nat) (Z:Tz) (p:List UInt8) (r:Int):List Value:=if Z.paE p r=0 then spC (some (q (Z.paD p))) (lsS p) (Z.paI p)else spC none [] 0
theorem Z1q {q:Int→Nat} {Z:Tz} {p:List UInt8} {r:Int} (h:Z.paE p r=0):paC q Z p r=spC (some (q (Z.paD p))) (lsS p) (Z.paI p):=if_pos h
theorem Z1n {q:Int→Nat} {Z:Tz} {p:List UInt8} {r:Int} (h:Z.paE p r≠0):paC q Z p r=spC none [] 0:=if_neg h
theorem Z1i {w:World} {U:Nat→Prop} {g B m n:Nat} {q:Int→Nat} {Z:Tz} {x:Int→Int} (h:Tx w U g q B Z) (hz:Z.okD m n x) (hm:m≤1000) (p:List UInt8) (hp:p.length≤5000) (r:Int) (hr:r≠0):
 Calls Tryz.prog 94 #[.pointer (some ⟨g,0,none⟩), .string (str p), .int .i64 r] w fun e w'=>e= .returned (.tuple #[.agg (paC q Z p r).toArray, .int .i64 (Z.paE p r)])∧Below w.heap.size w w':=by
 have hC:=fun w'=>Z45 p w' hp
 have done:∀ {w1 w2 w3:World} {gb:Nat},Below w.heap.size w w1→w.heap.size≤gb→Stp (fun y=>y=gb) w1 w2→Below w.heap.size w w2:=fun b z s=>((Stp.of_below b (fun _=>False)).next s (fun y e=> .inr (by omega))).below (Nat.le_refl _) (fun y e=>e.elim)
 by_cases h2:lsE p=2
 · have e1:Z.paE p r=r:=by unfold Tz.paE;rw [if_pos h2]
   rw [Z1n (by rw [e1];exact hr),e1]
   go_enter Tryz.func94,Tryz.ntmps94
   go_wp2_with (first
    | (refine Z07 (by rfl) (by rfl) ?_;intro gb w1 z1 z2 r1 b1)
    | (go_at_call 22;refine(hC _).mono ?_;rintro e w2 ⟨⟨a,N,c,rfl,hS⟩,b2⟩;rw [h2];have r2:=r1.later b2;have B2:=Z00q b1 b2 (Nat.le_refl _);clear hC)
    | (refine Z08 (by rfl) _ _ (by rfl) gb (by rfl) none [] 0 (by rfl) _ r2 rfl ?_;intro w3 r3 s3))
   exact bodyPost_ret (Z0d Z1f Tryz.results94 rfl rfl r3 rfl) rfl ⟨rfl,done (w3:=w3) B2 z1 s3⟩
 by_cases h0:lsE p=0
 · have hN:∀ y ∈ lsN p,nm y=true:=fun y hy=>by
    obtain⟨k1,k2,k3⟩:=Z57 h0
    exact Zbc k1 y (by rw [← k3];simp [hy])
   have hA:=fun w' (b:Below w.heap.size w w') a N c (hS:Sts w' a N c (lsN p))=>Z6w (h.later b) hz hm hS hN
   have hwl:=fun e=>Z5n hz (lsN p) 1 (by rw [hz.rt];decide) e
   by_cases h3:(Z.wk (lsN p) 1).2=0
   · have hlv:=hwl h3
     have hD:=fun w' (b:Below w.heap.size w w')=>Z1s (h.later b) hz hm hlv
     by_cases h4:(Z.nd (Z.paD p)).k=2
     · have e1:Z.paE p r=0:=by unfold Tz.paE;rw [if_neg h2,if_pos h0,if_pos h3,if_pos h4]
       rw [Z1q e1,e1]
       have hsl:(lsS p).length≤maxLen:=by have:=(Z2f (Z83 h0)).2.2;unfold maxLen;omega
       have h4':(Z.nd (Z.wk (lsN p) 1).1).k=2:=h4
       rw [h4',show decide ((2:Int)=2)=true from rfl]at hD
       have hI:Hid (lk (Z.nd (Z.wk (lsN p) 1).1).nm (lsS p)=Z.paI p):=rfl
       have hPD:Hid ((Z.wk (lsN p) 1).1=Z.paD p):=rfl
       have hwfi:wfi (Z.wk (lsN p) 1).1:=Z12 hz hm hlv
       rw [h3]at hA
       go_enter Tryz.func94,Tryz.ntmps94
       go_wp2_with (first
        | (refine Z07 (by rfl) (by rfl) ?_;intro gb w1 z1 z2 r1 b1)
        | (go_at_call 22;refine(hC _).mono ?_;rintro e w2 ⟨⟨a,N,c,rfl,hS⟩,b2⟩;rw [h0];have r2:=r1.later b2;have B2:=Z00q b1 b2 (Nat.le_refl _);clear hC)
        | (go_at_call 40;refine(hA _ B2 _ _ _ hS).mono ?_;rintro e w3 ⟨rfl,b3⟩;have r3:=r2.later b3;have B3:=Z00q B2 b3 (Nat.le_refl _);clear hA)
        | (go_at_call 104;refine(hD _ B3).mono ?_;rintro e w4 ⟨rfl,rfl⟩;clear hD
           obtain⟨tg,mb,ob,nb,sv,H,hU⟩:=h.later B3
           have c0:=H.c0
           have lo:=H.look hlv hwfi
           have n3:=H.n3 h4'
           have lo2:=(H.nm _ h4').2.look hsl)
        | (refine Z08 (by rfl) _ _ (by rfl) gb (by rfl) (some (q (Z.wk (lsN p) 1).1)) (lsS p) (lk (Z.nd (Z.wk (lsN p) 1).1).nm (lsS p)) (by rfl) _ r3 rfl ?_;intro w5 r5 s5))
       exact bodyPost_ret (Z0d Z1f Tryz.results94 rfl rfl r5 rfl) rfl ⟨rfl,done (w3:=w5) B3 z1 s5⟩
     · have e1:Z.paE p r=42:=by unfold Tz.paE;rw [if_neg h2,if_pos h0,if_pos h3,if_neg h4]
       rw [Z1n (by rw [e1];decide),e1]
       have h4':¬(Z.nd (Z.wk (lsN p) 1).1).k=2:=h4
       rw [decide_eq_false h4']at hD
       rw [h3]at hA
       go_enter Tryz.func94,Tryz.ntmps94
       go_wp2_with (first
        | (refine Z07 (by rfl) (by rfl) ?_;intro gb w1 z1 z2 r1 b1)
        | (go_at_call 22;refine(hC _).mono ?_;rintro e w2 ⟨⟨a,N,c,rfl,hS⟩,b2⟩;rw [h0];have r2:=r1.later b2;have B2:=Z00q b1 b2 (Nat.le_refl _);clear hC)
        | (go_at_call 40;refine(hA _ B2 _ _ _ hS).mono ?_;rintro e w3 ⟨rfl,b3⟩;have r3:=r2.later b3;have B3:=Z00q B2 b3 (Nat.le_refl _);clear hA)
        | (go_at_call 104;refine(hD _ B3).mono ?_;rintro e w4 ⟨rfl,rfl⟩;clear hD)
        | (refine Z08 (by rfl) _ _ (by rfl) gb (by rfl) none [] 0 (by rfl) _ r3 rfl ?_;intro w5 r5 s5))
       exact bodyPost_ret (Z0d Z1f Tryz.results94 rfl rfl r5 rfl) rfl ⟨rfl,done (w3:=w5) B3 z1 s5⟩
   · have e1:Z.paE p r=(Z.wk (lsN p) 1).2:=by unfold Tz.paE;rw [if_neg h2,if_pos h0,if_neg h3]
     rw [Z1n (by rw [e1];exact h3),e1]
     clear hwl
     go_enter Tryz.func94,Tryz.ntmps94
     go_wp2_with (first
      | (refine Z07 (by rfl) (by rfl) ?_;intro gb w1 z1 z2 r1 b1)
      | (go_at_call 22;refine(hC _).mono ?_;rintro e w2 ⟨⟨a,N,c,rfl,hS⟩,b2⟩;rw [h0];have r2:=r1.later b2;have B2:=Z00q b1 b2 (Nat.le_refl _);clear hC)
      | (go_at_call 40;refine(hA _ B2 _ _ _ hS).mono ?_;rintro e w3 ⟨rfl,b3⟩;have r3:=r2.later b3;have B3:=Z00q B2 b3 (Nat.le_refl _);clear hA)
      | (refine Z08 (by rfl) _ _ (by rfl) gb (by rfl) none [] 0 (by rfl) _ r3 rfl ?_;intro w5 r5 s5))
     exact bodyPost_ret (Z0d Z1f Tryz.results94 rfl rfl r5 rfl) rfl ⟨rfl,done (w3:=w5) B3 z1 s5⟩
 · have e1:Z.paE p r=lsE p:=by unfold Tz.paE;rw [if_neg h2,if_neg h0]
   rw [Z1n (by rw [e1];exact h0),e1]
   go_enter Tryz.func94,Tryz.ntmps94
   go_wp2_with (first
    | (refine Z07 (by rfl) (by rfl) ?_;intro gb w1 z1 z2 r1 b1)
    | (go_at_call 22;refine(hC _).mono ?_;rintro e w2 ⟨⟨a,N,c,rfl,hS⟩,b2⟩;have r2:=r1.later b2;have B2:=Z00q b1 b2 (Nat.le_refl _);clear hC)
    | (refine Z08 (by rfl) _ _ (by rfl) gb (by rfl) none [] 0 (by rfl) _ r2 rfl ?_;intro w3 r3 s3))
   exact bodyPost_ret (Z0d Z1f Tryz.results94 rfl rfl r3 rfl) rfl ⟨rfl,done (w3:=w3) B2 z1 s3⟩
set_option maxRecDepth 100000
section
variable {ops : Array Oper} {rest : List Oper} {o : Oper} {a : Act} {w : World} {Q : Exit → Act → World → Prop}
theorem Z6i (hw:Region.wanted o (yielded ops a.tmps)=true) (m x y:Operand) (ho:o.op= .mapUpdate 68 m x y) (b:Nat) (f:Int→Option Value) (hm:a.eval m= .map (some b)) (k:Int) (hx:a.eval x= .int .i64 k) (v:Value) (hy:a.eval y=v)
 (hM:MpI Tryz.prog 3 w b f) (hf:∀ k,(f k).isSome→0≤k∧k < 2048) (hk:wfi k)
 (h:∀ w',MpI Tryz.prog 3 w' b (upd f k (some v))→Stp (fun x=>x=b) w w'→wpList Tryz.prog ops Q rest (a.put o.dst undef) w'):wpList Tryz.prog ops Q (o::rest) a w:=by
 obtain⟨w',r1,r2,r3⟩:=hM.store Z7e uMn hf hk v
 refine Z4g hw _ ?_ (h w' r2 (Z3p r3))
 simp [execOp,ho,hm,hx,hy,r1]
theorem Zac (hw:Region.wanted o (yielded ops a.tmps)=true) (ho:o.op= .makeMap 71 none)
 (h:∀ b w',w.heap.size≤b→b < w'.heap.size→MpT w' b 0 []→Below w.heap.size w w'→wpList Tryz.prog ops Q rest (a.put o.dst (.map (some b))) w'):wpList Tryz.prog ops Q (o::rest) a w:=by
 refine Z11 hw _ _ ?_ (h w.heap.size (w.alloc (.map #[] 0)) (Nat.le_refl _) (by simp) (MpT.made w) ((Below.refl _ _).alloc (Nat.le_refl _) _))
 have:(Instr.makeMap 71 none).run Tryz.prog w= .ok (.map (some w.heap.size)) (w.alloc (.map #[] 0)):=rfl
 simp [execOp,ho,this]
end
def qUp (q:Int→Nat) (i:Int) (b:Nat):Int→Nat:=fun j=>if j=i then b else q j
theorem Zdk {q:Int→Nat} {Z:Tz} {k:Int} (hk:k≠0) (b:Nat) (h0:∀ i,(Z.nd i).k≠0→1≤i∧i.toNat < Z.N.length) (h2:1≤Z.N.length):nF (qUp q Z.top b) (Z.come k)=upd (nF q Z) Z.top (some (.pointer (some ⟨b,0,none⟩))):=by
 funext j
 unfold nF upd qUp
 rw [Z2p]
 by_cases e:j=Z.top
 · subst e
   have:Z.top.toNat=Z.N.length:=by unfold Tz.top;omega
   rw [if_pos this,if_pos rfl,if_pos rfl]
   simp [hk]
 · rw [if_neg e,if_neg e]
   by_cases e2:j.toNat=Z.N.length
   · have:j=Z.top:=by unfold Tz.top;omega
     exact absurd this e
   · rw [if_neg e2]
theorem Tw.come {w w':World} {tg:Nat→Nat} {g mb ob B:Nat} {q nb:Int→Nat} {sv:Int→Sv} {Z:Tz} (h:Tw w tg g mb ob q nb sv B Z) (h0:∀ i,(Z.nd i).k≠0→1≤i∧i.toNat < Z.N.length) (h2:1≤Z.N.length) {k:Int} (hk:k=1∨k=2) {b bm:Nat}
 (s:Stp (fun x=>x=g∨x=mb) w w') (hb:w.heap.size≤b) (hbm:w.heap.size≤bm) (hne:b≠bm) (ht:Cs w' g (trC mb ob (Z.come k))) (hM:MpI Tryz.prog 3 w' mb (upd (nF q Z) Z.top (some (.pointer (some ⟨b,0,none⟩)))))
 (hn:Cs w' b (ndC ⟨k,0, [], []⟩ Sv.nil bm)) (hT:k=2→MpT w' bm 0 []):
 Tw w' (fun x=>if x=b then 3 * Z.N.length+4 else if k=2∧x=bm then 3 * Z.N.length+6 else tg x) g mb ob (qUp q Z.top b) (fun j=>if j=Z.top then bm else nb j) (fun j=>if j=Z.top then Sv.nil else sv j) B (Z.come k):=by
 have hk0:k≠0:=by omega
 have t1:=h.tt
 have t2:=h.mt
 have lt:∀ x,tg x≠0→(if x=b then 3 * Z.N.length+4 else if k=2∧x=bm then 3 * Z.N.length+6 else tg x)=tg x:=fun x hx=>by
  have:=h.low x hx
  rw [if_neg (by omega),if_neg (by omega)]
 have N:=fun j=>Z2p (Z:=Z) k j
 have tn:Z.top.toNat=Z.N.length:=by unfold Tz.top;omega
 have et:∀ j:Int,j.toNat=Z.N.length→j=Z.top:=fun j e=>by unfold Tz.top;omega
 have off:∀ x c,tg x=c→3≤c→¬(x=g∨x=mb):=fun x c hx hc e=>by
  rcases e with e | e
  · rw [e]at hx;omega
  · rw [e]at hx;omega
 refine⟨fun x hx=>?_,fun j hj=>?_,ht,by rw [lt g (by omega)];exact t1,?_,by rw [lt mb (by omega)];exact t2,?_,fun j hj=>?_,fun j hj=>?_,fun j hj=>?_⟩
 · by_cases e:x=b
   · rw [e];exact hn.lt
   · rw [if_neg e]at hx
     by_cases e2:k=2∧x=bm
     · rw [e2.2];exact(hT e2.1).lt
     · rw [if_neg e2]at hx;exact Nat.lt_of_lt_of_le (h.low x hx) s.size
 · rw [N j]at hj
   by_cases e:j.toNat=Z.N.length
   · omega
   · rw [if_neg e]at hj;exact h.lv j hj
 · rw [Zdk hk0 b h0 h2];exact hM
 · obtain⟨U,u1,u2⟩:=h.fd
   exact⟨U,u1.step s (fun x hx=>off x 3 (u2 x hx) (Nat.le_refl _)),fun x hx=>by have:=u2 x hx;rw [lt x (by omega)];exact this⟩
 · rw [N j]at hj ⊢
   by_cases e:j.toNat=Z.N.length
   · rw [if_pos e]
     obtain rfl:=et j e
     unfold qUp
     simp only [if_true]
     exact⟨by rw [tn],hn⟩
   · rw [if_neg e]at hj ⊢
     have e2:¬j=Z.top:=fun c=>e (by rw [c,tn])
     obtain⟨u1,u2⟩:=h.nd j hj
     unfold qUp
     simp only [if_neg e2]
     exact⟨by rw [lt _ (by omega)];exact u1,u2.step s (off _ _ u1 (by omega))⟩
 · rw [N j]at hj ⊢
   by_cases e:j.toNat=Z.N.length
   · rw [if_pos e]
     obtain rfl:=et j e
     simp only [if_true]
     exact⟨OwD.nil w',fun r hr=>by cases hr⟩
   · rw [if_neg e]at hj ⊢
     have e2:¬j=Z.top:=fun c=>e (by rw [c,tn])
     obtain⟨u1,u2⟩:=h.dt j hj
     simp only [if_neg e2]
     exact⟨u1.step s (fun r hr=>off r _ (u2 r hr) (by omega)),fun r hr=>by rw [lt r (by have:=u2 r hr;omega)];exact u2 r hr⟩
 · rw [N j]at hj ⊢
   by_cases e:j.toNat=Z.N.length
   · rw [if_pos e]at hj ⊢
     obtain rfl:=et j e
     have hj':k=2:=hj
     simp only [if_true]
     exact⟨by rw [if_neg (fun c=>hne c.symm),if_pos ⟨hj',trivial⟩,tn],(hT hj').mono (Nat.zero_le _)⟩
   · rw [if_neg e]at hj ⊢
     have e2:¬j=Z.top:=fun c=>e (by rw [c,tn])
     obtain⟨u1,u2⟩:=h.nm j hj
     simp only [if_neg e2]
     exact⟨by rw [lt _ (by omega)];exact u1,u2.step s (off _ _ u1 (by omega))⟩
theorem Zag {w:World} {U:Nat→Prop} {g B:Nat} {q:Int→Nat} {Z:Tz} (h:Tx w U g q B Z) (h2:1≤Z.N.length) (hf:Z.N.length≤1000) (h0:∀ i,(Z.nd i).k≠0→1≤i∧i.toNat < Z.N.length) (k:Int) (hk:k=1∨k=2):
 Calls Tryz.prog 25 #[.pointer (some ⟨g,0,none⟩), .int .i64 k] w fun e w'=>∃ b,e= .returned (.int .i64 Z.top)∧TxG U g (qUp q Z.top b) B (Z.come k) w w':=by
 obtain⟨tg,mb,ob,nb,sv,H,hU⟩:=h
 have c1:=H.c1
 have c0:=H.c0
 have f1:=H.tr.frozen 1
 have hgt:=H.tt
 have hmt:=H.mt
 have hgl:=H.tr.lt
 have hml:=H.mp.lt
 have hwt:wrap64 Z.top=Z.top:=by unfold wrap64 Tz.top;omega
 have hwf:wfi Z.top:=Z2b (by unfold Tz.top;omega)
 have hkeys:∀ j,(nF q Z j).isSome→0≤j∧j < 2048:=fun j hj=>by
  unfold nF at hj
  split at hj
  · cases hj
  · rename_i e;have:=h0 j e;omega
 have gm:g≠mb:=fun e=>by rw [e]at hgt;omega
 have et:(Z.come k).top - 1=Z.top:=by unfold Tz.come Tz.top;simp
 have k1:Stp (fun x=>x=g) w (w.setCell ⟨g,1,none⟩ (.int .i64 Z.top)):=(Stp.refl (fun x=>x=g) w).setCell (p:=⟨g,1,none⟩) (.inl rfl) _
 have T1:Cs (w.setCell ⟨g,1,none⟩ (.int .i64 Z.top)) g (trC mb ob (Z.come k)):=by
  have:=H.tr.set 1 (.int .i64 Z.top) rfl
  unfold trC at this ⊢
  rw [et];exact this
 have M1:=H.mp.step k1 (fun e=>gm e.symm)
 have c0':=T1.cell 0 _ (show(trC mb ob (Z.come k))[0]? =some (.map (some mb))from rfl)
 have c1':=T1.cell 1 _ (show(trC mb ob (Z.come k))[1]? =some (.int .i64 ((Z.come k).top - 1))from rfl)
 rw [et]at c1'
 have hsz:=k1.size
 rcases hk with rfl | rfl
 · go_enter Tryz.func25,Tryz.ntmps25
   go_wp2_with (refine Z2n 73 (by rfl) _ (by rfl) (ndC ⟨1,0, [], []⟩ Sv.nil 0) (by rfl) (by simp [ndC,Value.oneCell']) ?_;intro b w1 z1 z2 r1 b1)
   have T2:=T1.later b1
   have M2:=M1.later b1
   refine Z0r (S:=fun u=>Below w1.heap.size w1 u) _ _ (by simp only [List.pop_toArray,List.dropLast_cons_cons,List.dropLast_singleton];rfl) (by simp only [List.back?_toArray,List.getLast?_cons_cons,List.getLast?_singleton];rfl) (by kernel_rfl) (by kernel_rfl) (Below.refl _ _).drew (fun hHeld=>?_)
   refine tl 0 (.pointer (some ⟨g,0,none⟩)) rfl ?_
   try simp only [z]
   refine tl 1 (.pointer (some ⟨g,0,none⟩)) rfl ?_
   try simp only [z]
   refine tl 2 (.pointer (some ⟨g,0,none⟩)) rfl ?_
   try simp only [z]
   refine tl 3 (.map (some mb)) rfl ?_ (fun u hu=>by have x1:=(T2.later hu).cell 0 _ rfl;go_simp)
   try simp only [z]
   refine tl 4 (.pointer (some ⟨g,0,none⟩)) rfl ?_
   try simp only [z]
   refine tl 5 (.pointer (some ⟨g,0,none⟩)) rfl ?_
   try simp only [z]
   refine tl 6 (.pointer (some ⟨g,1,none⟩)) rfl ?_
   try simp only [z]
   refine tl 7 (.int .i64 Z.top) rfl ?_ (fun u hu=>by have x1:=(T2.later hu).cell 1 _ rfl;rw [et]at x1;go_simp)
   try simp only [z]
   refine tl 8 (.pointer (some ⟨b,0,none⟩)) rfl ?_
   try simp only [z]
   refine wpAnyH_done (by kernel_rfl) ?_ _
   have T3:=T2.later hHeld
   have M3:=M2.later hHeld
   have r3:=r1.later hHeld
   have zz:=hHeld.size
   have b3:=Z00q b1 hHeld (Nat.le_refl _)
   generalize w1.drew=w3 at *
   show wpList _ _ _ [_] _ _
   refine Z6i (by rfl) _ _ _ (by rfl) mb (nF q Z) (by rfl) Z.top (by rfl) (.pointer (some ⟨b,0,none⟩)) (by rfl) M3 hkeys hwf ?_
   intro w4 m4 s4
   have bmb:b≠mb:=by omega
   have T4:=T3.step s4 gm
   have r4:=r3.step s4 bmb
   have d1:=T4.cell 1 _ rfl
   rw [et]at d1
   go_wp2_with fail
   go_returns
   have S4:Stp (fun x=>x=g∨x=mb) w w4:=((k1.mono (fun x e=> .inl (.inl e))).trans (Stp.of_below b3 _)).next s4 (fun x e=> .inl (.inr e))
   have h0':=hsz
   have m4':MpI Tryz.prog 3 w4 mb (upd (nF q Z) Z.top (some (.pointer (some ⟨b,0,none⟩)))):=m4
   have F:=H.come h0 h2 (k:=1) (.inl rfl) (b:=b) (bm:=b+1) S4 (by omega) (by omega) (by omega) T4 m4' r4 (fun e=>by cases e)
   refine⟨b,rfl,Z4m hU F (S4.mono (fun y e=> .inl ((hU y).2 (by rcases e with e | e<;>subst e<;>omega)))) (fun y hy=>?_)⟩
   by_cases e:y=b
   · exact .inr (by omega)
   · rw [if_neg e,if_neg (fun c=>by cases c.1)]at hy;exact .inl hy
 · have tk:Hid True:=trivial
   go_enter Tryz.func25,Tryz.ntmps25
   go_wp2_with (first
    | (refine Z2n 73 (by rfl) _ (by rfl) (ndC ⟨2,0, [], []⟩ Sv.nil 0 |>.set 3 (.map none)) (by rfl) (by simp [ndC,Value.oneCell']) ?_;intro b w1 z1 z2 r1 b1
       have T2:=T1.later b1
       have M2:=M1.later b1)
    | (clear tk;refine Zac (by rfl) (by rfl) ?_;intro bm w2 z3 z4 p2 b2
       have T2':=T2.later b2
       have M2':=M2.later b2
       have r2:=r1.later b2
       have f3:=r2.frozen 3
       have c3:=r2.cell 3 _ rfl))
   have nbm:b≠bm:=by omega
   have k5:Stp (fun x=>x=b) w2 (w2.setCell ⟨b,3,none⟩ (.map (some bm))):=(Stp.refl (fun x=>x=b) w2).setCell (p:=⟨b,3,none⟩) (.inl rfl) _
   have r5:=r2.set 3 (.map (some bm)) rfl
   have T5:=T2'.step k5 (fun e=>by omega)
   have M5:=M2'.step k5 (fun e=>by omega)
   have p5:=p2.step k5 (fun e=>nbm e.symm)
   have zz5:=k5.size
   generalize w2.setCell ⟨b,3,none⟩ (.map (some bm))=w5 at *
   refine Z0r (S:=fun u=>Below w5.heap.size w5 u) _ _ (by simp only [List.pop_toArray,List.dropLast_cons_cons,List.dropLast_singleton];rfl) (by simp only [List.back?_toArray,List.getLast?_cons_cons,List.getLast?_singleton];rfl) (by kernel_rfl) (by kernel_rfl) (Below.refl _ _).drew (fun hHeld=>?_)
   refine tl 0 (.pointer (some ⟨g,0,none⟩)) rfl ?_
   try simp only [z]
   refine tl 1 (.pointer (some ⟨g,0,none⟩)) rfl ?_
   try simp only [z]
   refine tl 2 (.pointer (some ⟨g,0,none⟩)) rfl ?_
   try simp only [z]
   refine tl 3 (.map (some mb)) rfl ?_ (fun u hu=>by have x1:=(T5.later hu).cell 0 _ rfl;go_simp)
   try simp only [z]
   refine tl 4 (.pointer (some ⟨g,0,none⟩)) rfl ?_
   try simp only [z]
   refine tl 5 (.pointer (some ⟨g,0,none⟩)) rfl ?_
   try simp only [z]
   refine tl 6 (.pointer (some ⟨g,1,none⟩)) rfl ?_
   try simp only [z]
   refine tl 7 (.int .i64 Z.top) rfl ?_ (fun u hu=>by have x1:=(T5.later hu).cell 1 _ rfl;rw [et]at x1;go_simp)
   try simp only [z]
   refine tl 8 (.pointer (some ⟨b,0,none⟩)) rfl ?_
   try simp only [z]
   refine wpAnyH_done (by kernel_rfl) ?_ _
   have T3:=T5.later hHeld
   have M3:=M5.later hHeld
   have r3:=r5.later hHeld
   have p3:=p5.later hHeld
   have zz:=hHeld.size
   generalize w5.drew=w3 at *
   show wpList _ _ _ [_] _ _
   refine Z6i (by rfl) _ _ _ (by rfl) mb (nF q Z) (by rfl) Z.top (by rfl) (.pointer (some ⟨b,0,none⟩)) (by rfl) M3 hkeys hwf ?_
   intro w4 m4 s4
   have bmb:b≠mb:=by omega
   have bmm:bm≠mb:=by omega
   have T4:=T3.step s4 gm
   have r4:=r3.step s4 bmb
   have p4:=p3.step s4 bmm
   have d1:=T4.cell 1 _ rfl
   rw [et]at d1
   go_wp2_with fail
   go_returns
   have S4:Stp (fun x=>x=g∨x=mb) w w4:=(((((k1.mono (fun x e=> .inl (.inl e))).trans (Stp.of_below b1 _)).trans (Stp.of_below b2 _)).next k5 (fun x e=> .inr (by omega))).trans (Stp.of_below hHeld _)).next s4 (fun x e=> .inl (.inr e))
   have m4':MpI Tryz.prog 3 w4 mb (upd (nF q Z) Z.top (some (.pointer (some ⟨b,0,none⟩)))):=m4
   have F:=H.come h0 h2 (k:=2) (.inr rfl) (b:=b) (bm:=bm) S4 (by omega) (by omega) nbm T4 m4' r4 (fun _=>p4)
   refine⟨b,rfl,Z4m hU F (S4.mono (fun y e=> .inl ((hU y).2 (by rcases e with e | e<;>subst e<;>omega)))) (fun y hy=>?_)⟩
   by_cases e:y=b
   · exact .inr (by omega)
   · rw [if_neg e]at hy
     by_cases e2:y=bm
     · exact .inr (by omega)
     · rw [if_neg (fun c=>e2 c.2)]at hy;exact .inl hy
theorem Z7m {w:World} {U:Nat→Prop} {g B m n:Nat} {q:Int→Nat} {Z:Tz} {x:Int→Int} (h:Tx w U g q B Z) (hz:Z.okD m n x) (hm:m≤1000) (k:Int) (hk:k=1∨k=2):
 Calls Tryz.prog 25 #[.pointer (some ⟨g,0,none⟩), .int .i64 k] w fun e w'=>∃ b,e= .returned (.int .i64 Z.top)∧TxG U g (qUp q Z.top b) B (Z.come k) w w':=
 Zag h (by have:=hz.two;omega) (Nat.le_trans hz.few hm) (fun i=>hz.live (i:=i)) k hk
set_option maxRecDepth 100000
theorem OwD.bsS {w:World} {s:Sv} {d:List Int} (h:OwD w s.v d) (hb:∀ b ∈ d,0≤b∧b≤255):s.n=d.length∧BsS w s d∧(s.a=none→s.c=0):=by
 obtain⟨s',e,h1,h2,_⟩:=Za3 (B:=0) h hb (fun r _=>Nat.zero_le r)
 obtain⟨a,n,c⟩:=s
 obtain⟨a',n',c'⟩:=s'
 simp only [Sv.v]at e
 injection e with e1 e2 e3
 subst e1;subst e2;subst e3
 exact⟨h1,h2,fun e=>(h2.zero e).2.1⟩
theorem Zdi:∃ i,(Tryz.prog.info? 5)=some i∧i.zero=some (.int .u8 0)∧i.size=1∧i.bytes=1:=by
 obtain⟨i,hi,hz,hs,hb⟩:=info_parts (show(Tryz.prog.info? 5).map (fun i=>(i.zero,i.size,i.bytes))=some (some (.int .u8 0),1,1) by kernel_rfl)
 exact⟨i,hi,hz,hs,hb⟩
theorem uB8:Tryz.prog.underlying 29=some (.slice 5):=by kernel_rfl
def zB (n:Nat):List Int:=List.replicate n 0
section
variable {ops : Array Oper} {rest : List Oper} {o : Oper} {a : Act} {w : World} {Q : Exit → Act → World → Prop}
theorem Zek (w:World) (n:Nat) (hn:n≤100000):(Instr.makeSlice 29 (.int .i64 (n:Int)) (.int .i64 (n:Int))).run Tryz.prog w= .ok (.slice (some ⟨w.heap.size,0,none⟩) n n) (w.alloc (.cells ((zB n).map (Value.int .u8)).toArray 5)):=by
 obtain⟨i,hi,hz,hs,hb⟩:=Zdi
 have hr:=run_make (P:=Tryz.prog) w 29 5 i _ uB8 hi hz .i64 .i64 n n (by omega) (Int.le_refl _) (by rw [hb];omega) (by omega)
 simp only [Int.toNat_natCast,hs]at hr
 have e:madeCells (Value.int .u8 0).cells (n * 1)=((zB n).map (Value.int .u8)).toArray:=by
  unfold madeCells zB
  apply Array.ext
  · simp
  · intro j h1 h2
    simp [Value.cells]
    rw [Nat.mod_one];rfl
 rw [e]at hr
 exact hr
theorem Zc5 (w:World) (n:Nat) (hn:n≤100000):OwD (w.alloc (.cells ((zB n).map (Value.int .u8)).toArray 5)) (.slice (some ⟨w.heap.size,0,none⟩) n n) (zB n):=by
 refine⟨by simp, .inr ⟨w.heap.size,n,((zB n).map (Value.int .u8)).toArray,by simp [zB],Nat.zero_le _,heap_alloc_new w _,by simp [zB],by unfold maxLen;omega,by simp [zB],by simp [zB]⟩⟩
theorem Ze8 (hw:Region.wanted o (yielded ops a.tmps)=true) (x:Operand) (ho:o.op= .makeSlice 29 x x) (n:Nat) (hx:a.eval x= .int .i64 (n:Int)) (hn:n≤100000)
 (h:∀ g w',w.heap.size≤g→g < w'.heap.size→OwD w' (.slice (some ⟨g,0,none⟩) n n) (zB n)→Below w.heap.size w w'→wpList Tryz.prog ops Q rest (a.put o.dst (.slice (some ⟨g,0,none⟩) n n)) w'):wpList Tryz.prog ops Q (o::rest) a w:=by
 refine Z11 hw _ _ ?_ (h w.heap.size _ (Nat.le_refl _) (by simp) (Zc5 w n hn) ((Below.refl _ _).alloc (Nat.le_refl _) _))
 simp only [execOp,ho,hx,Sem.run_bind]
 exact congrArg (fun r=>Result.andThen r _) (Zek w n hn)
end
def spD (d:List Int) (o:Nat) (l:List Int):List Int:=d.take o++l++d.drop (o+l.length)
theorem Z6t (d:List Int) (o:Nat) (l:List Int) (h:o+l.length≤d.length):(spD d o l).length=d.length:=by unfold spD;simp;omega
theorem Ze4 {α:Type} (L c:List α) (o n:Nat) (h:o+c.length≤n) (hn:n≤L.length):(L.take o++(c++L.drop (o+c.length))).take n=(L.take n).take o++(c++(L.take n).drop (o+c.length)):=by
 rw [List.take_append,List.take_append,List.take_take,List.take_take,List.drop_take,List.length_take,Nat.min_eq_left (show o≤L.length by omega),Nat.min_eq_right (show o≤n by omega),Nat.min_eq_left (show o≤n by omega),List.take_of_length_le (l:=c) (by omega)]
 congr 3
 omega
theorem Zfd (w:World) (g:Nat) (cs:Array Value):Stp (fun x=>x=g) w (w.setRow g cs):=⟨rfl,rfl,rfl,by simp [World.setRow],fun k hk hn=>setRow_other w g k cs hn⟩
theorem Zc4 {w:World} {s:Sv} {d:List Int} (h:OwD w s.v d) {g:Nat} (hg:s.a=some ⟨g,0,none⟩) (tp:TypeId) (dp:Option Addr) (dLen dCap:Nat) (s2:Sv) (l:List Int) (h2:BsS w s2 l) (off:Nat) (c:List Int) (hc:c=l.take (min s2.n dLen)) (hfit:off+c.length≤d.length) (hpos:0 < c.length→dp=some ⟨g,off,none⟩):
 ∃ w',(Builtin.copy_ #[29,29] tp #[.slice dp dLen dCap,s2.v]).run Tryz.prog w= .ok (goInt c.length) w'∧OwD w' s.v (spD d off c)∧Stp (fun x=>x=g) w w':=by
 have hl:=h2.len
 have hcl:c.length=Nat.min s2.n dLen:=by rw [hc,List.length_take];have:=Nat.min_le_left s2.n dLen;show min (min s2.n dLen) l.length=min s2.n dLen;omega
 by_cases h0:c.length=0
 · obtain rfl:c= []:=List.eq_nil_of_length_eq_zero h0
   refine⟨w,?_,by unfold spD;simpa using h,Stp.refl _ _⟩
   exact run_copy_none (P:=Tryz.prog) w 29 29 tp 5 dp s2.a dLen dCap s2.n s2.c uB8 (by kernel_rfl) (by rw [← hcl];rfl)
 · obtain rfl:=hpos (by omega)
   rcases h.2 with⟨e,_⟩ | ⟨g',cap,cur,e,e1,e2,e3,e4,e5,e6⟩
   · simp only [Sv.v]at e;injection e with e _ _;rw [hg]at e;cases e
   · simp only [Sv.v]at e
     injection e with e1' e2' e3'
     rw [hg]at e1';injection e1' with e1';injection e1' with e1' _
     subst e1'
     rw [Nat.mul_one]at e5 e6
     have hcs:c.length≤s2.n:=by rw [hcl];exact Nat.min_le_left _ _
     obtain⟨b,o2,eb,hcell⟩:=h2.cell (show 0 < s2.n by omega)
     have hrun:=run_copy_row (P:=Tryz.prog) w 29 29 tp 5 g off dLen dCap ⟨b,o2,none⟩ s2.n s2.c cur 5 (c.map (Value.int .u8)) uB8 (by kernel_rfl) e2
      (by rw [List.length_map];exact hcl) (fun j v hv=>by
        have hj:=(List.getElem?_eq_some_iff.1 hv).1
        rw [List.length_map]at hj
        have hjn:j < s2.n:=by omega
        rw [Addr.add_mid,hcell j hjn,← hv,List.getElem?_map,List.getElem?_eq_getElem hj,List.getD_eq_getElem?_getD,List.getElem?_eq_getElem (by omega)]
        simp only [hc,List.getElem_take];rfl) (by rw [List.length_map];omega) (Zff c)
     refine⟨_,by show(Builtin.copy_ _ tp #[_,Value.slice s2.a s2.n s2.c]).run _ _=_;rw [eb];rw [List.length_map]at hrun;exact hrun,?_,Zfd _ _ _⟩
     have hlen:=Z6t d off c hfit
     refine⟨by simp, .inr ⟨g,cap,(cur.toList.take off++c.map (Value.int .u8)++cur.toList.drop (off+c.length)).toArray,?_,Nat.zero_le _,setRow_heap w g _ _ _ _ e2,by rw [hlen];exact e3,e4,?_,?_⟩⟩
     · show Value.slice s.a s.n s.c=_;rw [hg,hlen,e2',e3']
     · simp;omega
     · rw [hlen,Nat.mul_one,List.append_assoc]
       have hsz:d.length≤cur.toList.length:=by have:cur.toList.length=cap:=e5;omega
       have:=Ze4 cur.toList (c.map (Value.int .u8)) off d.length (by rw [List.length_map];omega) hsz
       rw [List.length_map]at this
       show List.take d.length (cur.toList.take off++(c.map (Value.int .u8)++cur.toList.drop (off+c.length)))=_
       rw [this,e6]
       unfold spD
       simp [List.map_take,List.map_drop]
section
variable {ops : Array Oper} {rest : List Oper} {o : Oper} {a : Act} {w : World} {Q : Exit → Act → World → Prop}
theorem Z7h (hw:Region.wanted o (yielded ops a.tmps)=true) (x y:Operand) (ho:o.op= .call { callee:= .builtin .copy,args:=#[x,y],argTypes:=#[29,29]}) {s:Sv} {d:List Int} (h:OwD w s.v d) {g:Nat} (hg:s.a=some ⟨g,0,none⟩) (dp:Option Addr) (dLen dCap:Nat) (hx:a.eval x= .slice dp dLen dCap) (s2:Sv) (hy:a.eval y=s2.v) (l:List Int) (h2:BsS w s2 l) (off:Nat) (c:List Int) (hc:c=l.take (min s2.n dLen)) (hfit:off+c.length≤d.length) (hpos:0 < c.length→dp=some ⟨g,off,none⟩)
 (hK:∀ w',OwD w' s.v (spD d off c)→Stp (fun x=>x=g) w w'→wpList Tryz.prog ops Q rest (a.put o.dst (goInt c.length)) w'):wpList Tryz.prog ops Q (o::rest) a w:=by
 obtain⟨w',hr,r1,r2⟩:=Zc4 h hg o.type dp dLen dCap s2 l h2 off c hc hfit hpos
 refine Z11 hw _ w' ?_ (hK w' r1 r2)
 simp only [Sv.v]at hr hy
 simp [execOp,ho,resolve,invoke,builtin,hx,hy,hr,Result.andThen]
end
theorem Zef (d:List Int) (N:Nat):spD (zB N) 0 (d.take (min d.length N))=ctB' d N:=by
 unfold spD zB ctB'
 simp only [List.take_zero,List.nil_append,Nat.zero_add,List.length_take,List.drop_replicate]
 rw [show N - min (min d.length N) d.length=N - d.length by omega]
 congr 1
 by_cases h:d.length≤N
 · rw [Nat.min_eq_left h,List.take_of_length_le (Nat.le_refl _),List.take_of_length_le h]
 · rw [Nat.min_eq_right (by omega)]
theorem Z4v {w:World} {U:Nat→Prop} {g B m n:Nat} {q:Int→Nat} {Z:Tz} {x:Int→Int} (h:Tx w U g q B Z) (hz:Z.okD m n x) {i:Int} (hk:(Z.nd i).k≠0) (N:Nat) (hN:N≤48640):
 Calls Tryz.prog 98 #[.pointer (some ⟨q i,0,none⟩), .int .i64 (N:Int)] w fun e w'=>e= .returned (.tuple #[])∧TxG U g q B (Z.dat i (ctB' (Z.nd i).d N)) w w':=by
 obtain⟨tg,mb,ob,nb,sv,H,hU⟩:=h
 have hil:=hz.live hk
 have hb:=hz.db i
 have a0:(0:Int)≤(N:Int):=by omega
 have n2:=H.n2 hk
 have f2:=(H.nd i hk).2.frozen 2
 have t0:Hid True:=trivial
 go_enter Tryz.func98,Tryz.ntmps98
 go_wp2_with (first
  | (refine Ze8 (by rfl) _ (by rfl) N (by rfl) (by omega) ?_;intro gd w1 z1 z2 o1 b1
     have H1:=H.later b1
     have c2:=H1.n2 hk
     have g2:=(H1.nd i hk).2.frozen 2
     obtain⟨e1,s1,_⟩:=OwD.bsS (H1.dt i hk).1 hb)
  | (clear t0;refine Z7h (s:=⟨some ⟨gd,0,none⟩,N,N⟩) (by rfl) _ _ (by rfl) o1 rfl (some ⟨gd,0,none⟩) N N (by rfl) (sv i) (by rfl) _ s1 0 ((Z.nd i).d.take (min (sv i).n N)) rfl (by simp [zB];omega) (fun _=>rfl) ?_
     intro w2 o2 s2
     have gq:q i≠gd:=fun e=>by have:=H.low (q i) (by have:=(H.nd i hk).1;omega);omega
     have tl:∀ y,tg y≠0→¬y=gd:=fun y hy e=>by have:=H.low y hy;omega
     have H2:=H1.step s2 tl
     have d2:=H2.n2 hk
     have k2:=(H2.nd i hk).2.frozen 2))
 first | go_end0 | refine bodyPost_ret (results_none rfl _ _ _) rfl ?_
 rw [e1,Zef]at o2
 have F:=H2.cut hk hil.2 (s1:=⟨some ⟨gd,0,none⟩,N,N⟩) o2 (fun r hr=>by
  have:gd=r:=by simpa [Value.ownBlock]using hr
  subst this
  refine Decidable.byContradiction fun e=>?_
  have:=H.low gd e;omega)
 refine⟨rfl,Z4m hU F (((Stp.of_below b1 U).next s2 (fun y e=> .inr (by omega))).setCell (p:=⟨q i,2,none⟩) (.inl ((hU _).2 (by have:=(H.nd i hk).1;show tg (q i)≠0;omega))) _) (fun y hy=>?_)⟩
 by_cases e:(Value.slice (some ⟨gd,0,none⟩) N N).ownBlock=some y
 · have:gd=y:=by simpa [Value.ownBlock]using e
   exact .inr (by omega)
 · rw [if_neg e]at hy;exact .inl hy
end Go.Proofs.YtdnjddpfcgginaaGreat
