/-
  Texts of my own, joined: no statement is proved here.
-/
import Derived.Test.YtdnjddpfcgginaaGreatJal
set_option linter.unusedSimpArgs false
set_option linter.unusedVariables false
namespace Go.Proofs.YtdnjddpfcgginaaGreat
open Go.ChangeShapes Go.WideShapes Go.ChangeAt Go.RowKit
set_option maxRecDepth 100000
theorem Zda {w:World} {tg:Nat→Nat} {g mb ob B:Nat} {q nb:Int→Nat} {sv:Int→Sv} {Z:Tz} (H:Tw w tg g mb ob q nb sv B Z) (h2:1≤Z.N.length) (hf:Z.N.length≤1000) (h0:∀ i,(Z.nd i).k≠0→1≤i∧i.toNat < Z.N.length):
 Calls Tryz.prog 25 #[.pointer (some ⟨g,0,none⟩), .int .i64 2] w fun e w'=>∃ b tg' nb' sv',e= .returned (.int .i64 Z.top)∧Tw w' tg' g mb ob (qUp q Z.top b) nb' sv' B (Z.come 2)∧Stp (fun x=>x=g∨x=mb) w w'∧∀ x,tg' x≠0→tg x≠0∨w.heap.size≤x:=by
 have c1:=H.c1
 have c0:=H.c0
 have f1:=H.tr.frozen 1
 have hgt:=H.tt
 have hmt:=H.mt
 have hgl:=H.tr.lt
 have hml:=H.mp.lt
 have hwt:wrap64 Z.top=Z.top:=by unfold wrap64 Tz.top;omega
 have hwf:wfi Z.top:=Z2b (by unfold Tz.top;omega)
 have hkeys:∀ j,(nF q Z j).isSome→0≤j∧j < 2048:=fun j hj=>by
  unfold nF at hj
  split at hj
  · cases hj
  · rename_i e;have:=h0 j e;omega
 have gm:g≠mb:=fun e=>by rw [e]at hgt;omega
 have et:(Z.come 2).top - 1=Z.top:=by unfold Tz.come Tz.top;simp
 have k1:Stp (fun x=>x=g) w (w.setCell ⟨g,1,none⟩ (.int .i64 Z.top)):=(Stp.refl (fun x=>x=g) w).setCell (p:=⟨g,1,none⟩) (.inl rfl) _
 have T1:Cs (w.setCell ⟨g,1,none⟩ (.int .i64 Z.top)) g (trC mb ob (Z.come 2)):=by
  have:=H.tr.set 1 (.int .i64 Z.top) rfl
  unfold trC at this ⊢
  rw [et];exact this
 have M1:=H.mp.step k1 (fun e=>gm e.symm)
 have c0':=T1.cell 0 _ (show(trC mb ob (Z.come 2))[0]? =some (.map (some mb))from rfl)
 have c1':=T1.cell 1 _ (show(trC mb ob (Z.come 2))[1]? =some (.int .i64 ((Z.come 2).top - 1))from rfl)
 rw [et]at c1'
 have hsz:=k1.size
 have tk:Hid True:=trivial
 go_enter Tryz.func25,Tryz.ntmps25
 go_wp2_with (first
  | (refine Z2n 73 (by rfl) _ (by rfl) (ndC ⟨2,0, [], []⟩ Sv.nil 0 |>.set 3 (.map none)) (by rfl) (by simp [ndC,Value.oneCell']) ?_;intro b w1 z1 z2 r1 b1
     have T2:=T1.later b1
     have M2:=M1.later b1)
  | (clear tk;refine Zac (by rfl) (by rfl) ?_;intro bm w2 z3 z4 p2 b2
     have T2':=T2.later b2
     have M2':=M2.later b2
     have r2:=r1.later b2
     have f3:=r2.frozen 3
     have c3:=r2.cell 3 _ rfl))
 have nbm:b≠bm:=by omega
 have k5:Stp (fun x=>x=b) w2 (w2.setCell ⟨b,3,none⟩ (.map (some bm))):=(Stp.refl (fun x=>x=b) w2).setCell (p:=⟨b,3,none⟩) (.inl rfl) _
 have r5:=r2.set 3 (.map (some bm)) rfl
 have T5:=T2'.step k5 (fun e=>by omega)
 have M5:=M2'.step k5 (fun e=>by omega)
 have p5:=p2.step k5 (fun e=>nbm e.symm)
 have zz5:=k5.size
 generalize w2.setCell ⟨b,3,none⟩ (.map (some bm))=w5 at *
 refine Z0r (S:=fun u=>Below w5.heap.size w5 u) _ _ (by simp only [List.pop_toArray,List.dropLast_cons_cons,List.dropLast_singleton];rfl) (by simp only [List.back?_toArray,List.getLast?_cons_cons,List.getLast?_singleton];rfl) (by kernel_rfl) (by kernel_rfl) (Below.refl _ _).drew (fun hHeld=>?_)
 refine tl 0 (.pointer (some ⟨g,0,none⟩)) rfl ?_
 try simp only [z]
 refine tl 1 (.pointer (some ⟨g,0,none⟩)) rfl ?_
 try simp only [z]
 refine tl 2 (.pointer (some ⟨g,0,none⟩)) rfl ?_
 try simp only [z]
 refine tl 3 (.map (some mb)) rfl ?_ (fun u hu=>by have x1:=(T5.later hu).cell 0 _ rfl;go_simp)
 try simp only [z]
 refine tl 4 (.pointer (some ⟨g,0,none⟩)) rfl ?_
 try simp only [z]
 refine tl 5 (.pointer (some ⟨g,0,none⟩)) rfl ?_
 try simp only [z]
 refine tl 6 (.pointer (some ⟨g,1,none⟩)) rfl ?_
 try simp only [z]
 refine tl 7 (.int .i64 Z.top) rfl ?_ (fun u hu=>by have x1:=(T5.later hu).cell 1 _ rfl;rw [et]at x1;go_simp)
 try simp only [z]
 refine tl 8 (.pointer (some ⟨b,0,none⟩)) rfl ?_
 try simp only [z]
 refine wpAnyH_done (by kernel_rfl) ?_ _
 have T3:=T5.later hHeld
 have M3:=M5.later hHeld
 have r3:=r5.later hHeld
 have p3:=p5.later hHeld
 have zz:=hHeld.size
 generalize w5.drew=w3 at *
 show wpList _ _ _ [_] _ _
 refine Z6i (by rfl) _ _ _ (by rfl) mb (nF q Z) (by rfl) Z.top (by rfl) (.pointer (some ⟨b,0,none⟩)) (by rfl) M3 hkeys hwf ?_
 intro w4 m4 s4
 have bmb:b≠mb:=by omega
 have bmm:bm≠mb:=by omega
 have T4:=T3.step s4 gm
 have r4:=r3.step s4 bmb
 have p4:=p3.step s4 bmm
 have d1:=T4.cell 1 _ rfl
 rw [et]at d1
 go_wp2_with fail
 go_returns
 have S4:Stp (fun x=>x=g∨x=mb) w w4:=(((((k1.mono (fun x e=> .inl (.inl e))).trans (Stp.of_below b1 _)).trans (Stp.of_below b2 _)).next k5 (fun x e=> .inr (by omega))).trans (Stp.of_below hHeld _)).next s4 (fun x e=> .inl (.inr e))
 have m4':MpI Tryz.prog 3 w4 mb (upd (nF q Z) Z.top (some (.pointer (some ⟨b,0,none⟩)))):=m4
 have F:=H.come h0 h2 (k:=2) (.inr rfl) (b:=b) (bm:=bm) S4 (by omega) (by omega) nbm T4 m4' r4 (fun _=>p4)
 refine⟨b,_,_,_,rfl,F,S4,fun y hy=>?_⟩
 by_cases e:y=b
 · exact .inr (by omega)
 · rw [if_neg e]at hy
   by_cases e2:y=bm
   · exact .inr (by omega)
   · rw [if_neg (fun c=>e2 c.2)]at hy;exact .inl hy
section
variable {o : Oper} {a : Act} {w : World} {K : Act → World → Prop} {ops : Array Oper} {Q : Exit → Act → World → Prop} {R : Prop}
theorem Za8 {T:TypeId} {mv kv v:Value} (hgd:o.guard=none) (m k:Operand) (ho:o.op= .lookup T m k false) (hm:a.eval m=mv) (hk:a.eval k=kv) (hr:(Instr.lookup T mv kv false).run Tryz.prog w= .ok v w) (h:K (a.put o.dst v) w):if Region.wanted o (yielded ops a.tmps)=true then Oper.wp Tryz.prog o a w K Q else R:=by
 have hw:Region.wanted o (yielded ops a.tmps)=true:=by simp [Region.wanted,hgd]
 rw [if_pos hw]
 have hr2:(execOp a.eval o).run Tryz.prog w= .ok (.value v) w:=by simp [execOp,ho,hm,hk,hr]
 unfold Oper.wp
 rw [hr2]
 exact h
end
def Z00:Tz:=⟨[Nd.zero],Z3l⟩
theorem Zcv (i:Int):Z00.nd i=Nd.zero:=by
 unfold Z00 Tz.nd
 show([Nd.zero]:List Nd).getD i.toNat Nd.zero=Nd.zero
 match i.toNat with
 | 0=>rfl
 | k+1=>rfl
set_option maxHeartbeats 4000000 in
theorem Z8i (w:World):
 Calls Tryz.prog 6 #[] w fun e w'=>∃ g U q,e= .returned (.pointer (some ⟨g,0,none⟩))∧Below w.heap.size w w'∧Tx w' U g q 0 Tz.new∧∀ x,U x→w.heap.size≤x:=by
 have wf1:wfi 1:=Z2b (by omega)
 classical
 go_enter Tryz.func6,Tryz.ntmps6
 go_wp2_with (first
  | (refine Zbr 68 (by rfl) (by rfl) ?_;intro mb w1 hm M1 b1)
  | (go_at_call 24;refine(Z5t _).mono ?_;rintro e w2 ⟨ob,Uo,rfl,zo,b2,F2,hUo⟩
     have M2:=M1.later b2
     have B2:=Z00q b1 b2 (Nat.le_refl _))
  | (refine Z2n 70 (by rfl) _ (by rfl) (trC mb ob Z00) (by rfl) (by simp [trC,Value.oneCell']) ?_;intro g w3 z3 z4 r3 b3
     have M3:=M2.later b3
     have B3:=Z00q B2 b3 (Nat.le_refl _)))
 have lm:=M1.lt
 have v2:=b2.size
 have v3:=b3.size
 have lF:=F2.low
 have F3:Fd w3 Uo ob Z3l:=F2.step (Stp.of_below b3 (fun _=>False)) (fun _ _=>id)
 have hnF:nF (fun _=>0) Z00=fun _=>none:=by
  funext i
  unfold nF
  rw [Zcv,if_pos (show Nd.zero.k=0 from rfl)]
 have hno:∀ i,(Z00.nd i).k≠0→False:=fun i e=>e (by rw [Zcv];rfl)
 have T3:Tw w3 (fun x=>if x=g then 1 else if x=mb then 2 else if Uo x then 3 else 0) g mb ob (fun _=>0) (fun _=>0) (fun _=>Sv.nil) 0 Z00:=by
  refine⟨fun x hx=>?_,fun i e=>(hno i e).elim,r3,if_pos rfl,by rw [hnF];exact M3,?_,⟨Uo,F3,fun x hx=>?_⟩,fun i e=>(hno i e).elim,fun i e=>(hno i e).elim,fun i e=>(hno i (by rw [e];decide)).elim⟩
  · by_cases e1:x=g
    · omega
    · rw [if_neg e1]at hx
      by_cases e2:x=mb
      · omega
      · rw [if_neg e2]at hx
        by_cases e3:Uo x
        · have:=lF x e3;omega
        · rw [if_neg e3]at hx;exact absurd rfl hx
  · rw [if_neg (by omega),if_pos rfl]
  · have h1:=hUo x hx
    have h2:=lF x hx
    rw [if_neg (by omega),if_neg (by omega),if_pos hx]
 have T3n:∀ x,(if x=g then 1 else if x=mb then 2 else if Uo x then 3 else 0)≠0→w.heap.size≤x:=fun x hx=>by
  by_cases e1:x=g
  · omega
  · rw [if_neg e1]at hx
    by_cases e2:x=mb
    · omega
    · rw [if_neg e2]at hx
      by_cases e3:Uo x
      · have:=hUo x e3;omega
      · rw [if_neg e3]at hx;exact absurd rfl hx
 have c0:=T3.c0
 refine Z0r (S:=fun u=>Stp (fun x=>x=g∨x=mb) w3 u∧u.cell? ⟨g,0,none⟩=some (.map (some mb))) _ _ (by simp only [List.pop_toArray,List.dropLast_cons_cons,List.dropLast_singleton];rfl) (by simp only [List.back?_toArray,List.getLast?_cons_cons,List.getLast?_singleton];rfl) (by kernel_rfl) (by kernel_rfl) ⟨(Stp.refl _ _).drew,c0⟩ (fun hHeld=>?_)
 refine tl 0 (.pointer (some ⟨g,0,none⟩)) rfl ?_
 try simp only [z]
 refine tl 1 (.pointer (some ⟨g,0,none⟩)) rfl ?_
 try simp only [z]
 refine tl 2 (.pointer (some ⟨g,0,none⟩)) rfl ?_
 try simp only [z]
 refine tl 3 (.map (some mb)) rfl ?_ (fun u hu=>by have x1:=hu.2;go_simp)
 try simp only [z]
 refine tl 4 (.pointer (some ⟨g,0,none⟩)) rfl ?_
 try simp only [z]
 refine rd 5 rfl (fun K hK=>?_)
 go_simp
 refine(Zda (T3.later (show Below w3.heap.size w3 w3.drew from(Below.refl _ _).drew)) (by decide) (by decide) (fun i e=>(hno i e).elim)).mono ?_
 rintro e w6 ⟨b,tg6,nb6,sv6,rfl,H6,s6,n6⟩
 try go_wp2_with fail
 refine hK.out _ _ (⟨((Stp.refl _ _).drew).trans s6,H6.c0⟩) (fun hHeld=>?_)
 clear hK K
 try simp only [z]
 refine rd 6 rfl (fun K hK=>?_)
 have eL:(Instr.lookup 68 (.map (some mb)) (.int .i64 Z00.top) false).run Tryz.prog w6= .ok (.pointer (some ⟨b,0,none⟩)) w6:=H6.look (i:=1) (show(2:Int)≠0 by decide) wf1
 refine Za8 rfl _ _ (by rfl) (by rfl) (by rfl) eL ?_
 refine hK.out _ _ (hHeld) (fun hHeld=>?_)
 clear hK K
 try simp only [z]
 refine tl 7 (.pointer (some ⟨b,0,none⟩)) rfl ?_
 try simp only [z]
 refine tl 8 (.pointer (some ⟨b,1,none⟩)) rfl ?_
 try simp only [z]
 refine wpAnyH_done (by kernel_rfl) ?_ _
 have h2:((Z00.come 2).nd 1).k≠0:=show(2:Int)≠0 by decide
 have eb:qUp (fun _=>0) Z00.top b 1=b:=rfl
 have fz:=(H6.nd 1 h2).2.frozen 1
 have ce:=H6.n1 h2
 have H7:=H6.links h2 (by decide) 1
 have k7:Stp (fun x=>x=b) w6 (w6.setCell ⟨b,1,none⟩ (.int .i64 1)):=(Stp.refl (fun x=>x=b) w6).setCell (p:=⟨b,1,none⟩) (.inl rfl) _
 have n7:tg6 b≠0:=by have:=(H6.nd 1 h2).1;rw [eb]at this;omega
 rw [eb]at fz ce H7
 have H8:Tw (w6.setCell ⟨b,1,none⟩ (.int .i64 1)) tg6 g mb ob (qUp (fun _=>0) Z00.top b) nb6 sv6 0 Tz.new:=H7
 have hn:∀ x,tg6 x≠0→w.heap.size≤x:=fun x hx=>by
  rcases n6 x hx with e | e
  · exact T3n x e
  · have:w3.drew.heap.size=w3.heap.size:=rfl
    have:=B3.size
    omega
 have hb:=hn b n7
 have Bf:Below w.heap.size w (w6.setCell ⟨b,1,none⟩ (.int .i64 1)):=(((Stp.of_below B3 (fun x=>w.heap.size≤x)).next hHeld.1 (fun x e=> .inl (by rcases e with e | e<;>subst e<;>omega))).next k7 (fun x e=> .inl (by subst e;exact hb))).below (Nat.le_refl _) (fun x e=>e)
 show wpList _ _ _ [_] _ _
 go_wp2_with fail
 go_returns
 exact⟨g,_,_,rfl,Bf,⟨tg6,mb,ob,nb6,sv6,H8,fun x=>Iff.rfl⟩,fun x hx=>hn x hx⟩
end Go.Proofs.YtdnjddpfcgginaaGreat
