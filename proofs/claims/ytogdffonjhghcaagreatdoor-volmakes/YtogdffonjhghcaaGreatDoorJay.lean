/-
  Texts of my own, joined: no statement is proved here.
-/
import Derived.Test.YtogdffonjhghcaaGreatDoorJax
set_option linter.unusedSimpArgs false
set_option linter.unusedVariables false
namespace Go.Proofs.YtogdffonjhghcaaGreatDoor
open Go.ChangeShapes Go.WideShapes Go.ChangeAt Go.RowKit
theorem GZ.ok.setW {Z:GZ} {t:Int} (h:Z.ok t) (i:Int):(GZ.mk Z.last (setW Z.l i)).ok t:=by
 have hm:∀ p ∈ Go.Proofs.YtogdffonjhghcaaGreatDoor.setW Z.l i,∃ q ∈ Z.l,p=if q.id=i then { q with wr:=true} else q:=fun p hp=>by
  obtain⟨q,h1,h2⟩:=List.mem_map.1 hp;exact⟨q,h1,h2.symm⟩
 refine⟨?_,fun p hp=>?_,fun p hp=>?_,fun p hp=>?_,fun p hp=>?_,h.l0,h.lt⟩
 · show(Go.Proofs.YtogdffonjhghcaaGreatDoor.setW Z.l i).Pairwise _
   unfold Go.Proofs.YtogdffonjhghcaaGreatDoor.setW
   rw [List.pairwise_map]
   refine h.srt.imp fun {a b} hab=>?_
   split<;>split<;>exact hab
 · obtain⟨q,h1,rfl⟩:=hm p hp;have:=h.rng q h1;split<;>exact this
 · obtain⟨q,h1,rfl⟩:=hm p hp;have:=h.ft q h1;split<;>exact this
 · obtain⟨q,h1,rfl⟩:=hm p hp;have:=h.nds q h1;split<;>exact this
 · obtain⟨q,h1,rfl⟩:=hm p hp;have:=h.wf q h1;split<;>exact this
def Pt.wrt (p:Pt):Pt:= { p with wr:=true}
theorem Gr.keysW {w:World} {g mp mw:Nat} {f fw:Int→Option Value} {Z:GZ} {E F:Nat→Prop} (H:Gr w g mp mw f fw Z E F):∀ k,(fw k).isSome→0≤k∧k < 2048:=fun k hk=>by
 by_cases h:wts Z.l k= []
 · rw [H.wn k h]at hk;cases hk
 · obtain⟨x,hx⟩:=List.exists_mem_of_ne_nil _ h
   obtain⟨p,h1,h2,h3,_⟩:=Z2b.1 hx
   have:=Z13 (H.ok.ft p h1)
   omega
theorem Gr.keysP {w:World} {g mp mw:Nat} {f fw:Int→Option Value} {Z:GZ} {E F:Nat→Prop} (H:Gr w g mp mw f fw Z E F):∀ k,(f k).isSome→0≤k∧k < 2048:=fun k hk=>by
 cases h:fnd Z.l k with
 | none=>rw [H.pn k h]at hk;cases hk
 | some p=>
   have h1:=Z1r h
   have:=H.ok.rng p h1.1
   have:=H.ok.lt
   omega
theorem Gr.wrote {w w1 w2:World} {g mp mw:Nat} {f fw:Int→Option Value} {Z:GZ} {E F:Nat→Prop} (H:Gr w g mp mw f fw Z E F) {p:Pt} {d n:Sv} {v:Value} (hp:p ∈ Z.l) (hpm:PtM w E p d n) (hv:fw p.at'=some v)
 (s1:Stp (fun x=>x=mp) w w1) (m1:MpI Tryz.prog 3 w1 mp (upd f p.id (some (.agg (p.wrt.cs d n).toArray)))) (hW:Wtd w1 w2 mw fw p.at' v ((wts Z.l p.at').filter fun y=> !(y==p.id))) (hne:wts Z.l p.at'≠ []):
 Gh w2 g ⟨Z.last,setW Z.l p.id⟩ E F∧Stp F w w2:=by
 obtain⟨fw',m2,s2,hcase⟩:=hW
 obtain⟨v0,e0,ow0,hob⟩:=H.ws p.at' hne
 rw [hv]at e0;injection e0 with e0;subst e0
 have hmp:v.ownBlock≠some mp:=ow0.map_ne H.pm
 have sF:Stp F w w2:=(s1.mono (fun x e=> .inl (e▸H.fm))).next s2 (fun x e=>by
  rcases e with e | e
  · exact .inl (e▸H.fw')
  · exact .inl (hob x e).1)
 have hE:∀ x,E x→¬F x:=H.ef
 have hmp2:¬(mp=mw∨v.ownBlock=some mp):=fun e=>by rcases e with e | e;exact H.ne e;exact hmp e
 have hg1:g≠mp:=H.c.notMap H.pm
 have hg2:¬(g=mw∨v.ownBlock=some g):=fun e=>by rcases e with e | e;exact H.c.notMap H.wm e;exact(hob g e).2 rfl
 have eW:∀ s,wts (setW Z.l p.id) s=if s=p.at' then(wts Z.l p.at').filter (fun y=> !(y==p.id))else wts Z.l s:=fun s=>by
  rw [Znb]
  by_cases e:s=p.at'
  · rw [if_pos e,e]
  · rw [if_neg e]
    refine List.filter_eq_self.2 fun x hx=>?_
    obtain⟨q,h1,h2,h3,_⟩:=Z2b.1 hx
    have:x≠p.id:=fun e2=>e (by rw [← h3,Z61 H.ok.srt hp h1 (by rw [h2,e2])])
    simpa using this
 refine⟨⟨mp,mw,upd f p.id (some (.agg (p.wrt.cs d n).toArray)),fw',⟨(H.c.step s1 hg1).step s2 hg2,m1.step s2 hmp2,m2,fun i q hq=>?_,fun i hi=>?_,fun s hs=>?_,fun s hs=>?_,?_,H.fg,H.fm,H.fw',H.ne,fun x hx=>Nat.lt_of_lt_of_le (H.lt x hx) sF.size,fun x hx=>Nat.lt_of_lt_of_le (H.el x hx) sF.size,H.ef,H.ok.setW _⟩⟩,sF⟩
 · simp only at hq
   rw [Zck]at hq
   unfold upd
   by_cases e:i=p.id
   · rw [if_pos e]at hq ⊢
     rw [Z29 H.ok.srt hp]at hq
     injection hq with hq;subst hq
     exact⟨d,n,rfl,(hpm.step sF hE).other (p':=p.wrt) rfl rfl⟩
   · rw [if_neg e]at hq ⊢
     obtain⟨d',n',h1,h2⟩:=H.ps i q hq
     exact⟨d',n',h1,h2.step sF hE⟩
 · simp only at hi
   rw [Zck]at hi
   unfold upd
   by_cases e:i=p.id
   · rw [if_pos e,Z29 H.ok.srt hp]at hi;cases hi
   · rw [if_neg e]at hi ⊢;exact H.pn i hi
 · simp only at hs ⊢
   rw [eW]at hs ⊢
   by_cases e:s=p.at'
   · rw [if_pos e]at hs ⊢
     rcases hcase with⟨h1,_⟩ | ⟨_,v',h2,h3,h4⟩
     · exact absurd h1 hs
     · exact⟨v',by rw [h2];simp [upd,e],h3,fun r hr=>hob r (by rw [← h4];exact hr)⟩
   · rw [if_neg e]at hs ⊢
     obtain⟨u,h1,h2,h3⟩:=H.ws s hs
     refine⟨u,?_,(h2.step s1 (fun r hr e2=>h2.map_ne H.pm (by rw [hr,e2]))).step s2 (fun r hr e2=>?_),h3⟩
     · rcases hcase with⟨_,h5⟩ | ⟨_,v',h5,_⟩<;>rw [h5]<;>unfold upd<;>rw [if_neg e]<;>exact h1
     · rcases e2 with e2 | e2
       · exact h2.map_ne H.wm (by rw [hr,e2])
       · exact e (H.ap s p.at' u v r h1 hv hr e2)
 · simp only at hs
   rw [eW]at hs
   by_cases e:s=p.at'
   · rw [if_pos e]at hs
     rcases hcase with⟨_,h5⟩ | ⟨h1,_⟩
     · rw [h5];simp [upd,e]
     · exact absurd hs h1
   · rw [if_neg e]at hs
     rcases hcase with⟨_,h5⟩ | ⟨_,v',h5,_⟩<;>rw [h5]<;>unfold upd<;>rw [if_neg e]<;>exact H.wn s hs
 · intro s s' a b r ha hb hra hrb
   have low:∀ s a,fw' s=some a→a.ownBlock=some r→∃ a0,fw s=some a0∧a0.ownBlock=some r:=fun s a ha hra=>by
    rcases hcase with⟨_,h5⟩ | ⟨_,v',h5,_,h4⟩
    · rw [h5]at ha;unfold upd at ha
      by_cases e:s=p.at'
      · rw [if_pos e]at ha;cases ha
      · rw [if_neg e]at ha;exact⟨a,ha,hra⟩
    · rw [h5]at ha;unfold upd at ha
      by_cases e:s=p.at'
      · rw [if_pos e]at ha;injection ha with ha;subst ha
        exact⟨v,by rw [e];exact hv,by rw [← h4];exact hra⟩
      · rw [if_neg e]at ha;exact⟨a,ha,hra⟩
   obtain⟨a0,q1,q2⟩:=low s a ha hra
   obtain⟨b0,q3,q4⟩:=low s' b hb hrb
   exact H.ap s s' a0 b0 r q1 q3 q2 q4
set_option maxRecDepth 100000 in
set_option maxHeartbeats 4000000 in
theorem Zhq {w:World} {g mp mw:Nat} {f fw:Int→Option Value} {Z:GZ} {E F:Nat→Prop} (H:Gr w g mp mw f fw Z E F) (i:Int) (hi:wfi i) (hnl:∀ p ∈ Z.l,p.needs.length≤100000):
 Calls Tryz.prog 279 #[.pointer (some ⟨g,0,none⟩), .int .i64 i] w fun e w'=>e= .returned (.int .i64 (wE Z.l i))∧Gh w' g (Z.wr1 i) E F∧Stp F w w':=by
 obtain⟨z0,z1,z2⟩:=H.cells
 obtain⟨d4,n4,e4,m4,e5⟩:=H.look i
 have pm:=H.pm
 have t1:True:=trivial
 have t2:True:=trivial
 have t3:True:=trivial
 have key:∀ w5 w6 g5,w.heap.size≤g5→Below w.heap.size w w5→Stp (fun x=>x=g5) w5 w6→Below w.heap.size w w6:=fun w5 w6 g5 h1 h2 h3=>
  ((Stp.of_below h2 (fun _=>False)).next h3 (fun x e=> .inr (by omega))).below (Nat.le_refl _) (fun x e=>e.elim)
 cases hf:fnd Z.l i with
 | none=>
   have hE:Hid (wE Z.l i=5):=by show _=_;unfold wE;rw [hf]
   have hZ:Hid (Z.wr1 i=Z):=by show _=_;unfold GZ.wr1;rw [if_neg (by rw [hE.out];decide)]
   rw [Z7t,hf]at e5
   replace e5:(f i).isSome=false:=e5
   generalize gt Z.l i=p at *
   go_enter Tryz.func279,Tryz.ntmps279
   go_wp2_with (first
    | (clear t1;refine Z1i 186 56 uPm _ zP (by rfl) _ _ (by rfl) mp f (by rfl) pm i (by rfl) hi _ e4 _ e5 ?_)
    | (clear t2;refine Z0t (by rfl) (by rfl) ?_;intro g5 w5 a5 a6 r5 b5)
    | (clear t3;refine Z0i (by rfl) _ _ (by rfl) g5 (by rfl) p d4 n4 (by rfl) _ r5 rfl ?_;intro w6 r6 s6;have B6:=key w5 w6 g5 a5 b5 s6))
   go_returns
   exact⟨by rw [hE.out];rfl,⟨mp,mw,f,fw,by rw [hZ.out];exact H.later B6⟩,Stp.of_below B6 F⟩
 | some p=>
   have hp:=Z1r hf
   have hgt:gt Z.l i=p:=by unfold gt;rw [hf];rfl
   rw [hgt]at e4 m4
   rw [Z7t,hf]at e5
   replace e5:(f i).isSome=true:=e5
   have hE0:wE Z.l i=if p.wr||held Z.l p||bhd Z.l p then 23 else 0:=by unfold wE;rw [hf]
   have hfp:=H.ok.ft p hp.1
   have hnp:=hnl p hp.1
   have hwp:=H.ok.wfp hp.1
   have hHd:=fun u (hu:Below w.heap.size w u)=>Z6e (H.later hu) p d4 n4 (m4.later hu).is hnp
   have hAh:=fun u (hu:Below w.heap.size w u)=>Zht (H.later hu) p d4 n4 hwp.s
   have hsh:=Zc7 (ahd Z.l p) (fun q hq=>H.ok.ft q (Z0y.1 (List.mem_filter.1 hq).1).1)
   have hMt:=fun u=>Z76 (shB (ahd Z.l p)) (shK (ahd Z.l p)) p d4 n4 u hsh.1 hsh.2 hfp m4.bs.len.symm
   have hbh:=Zqa p hfp H.ok.ft
   go_enter Tryz.func279,Tryz.ntmps279
   go_wp2_with (first
    | (clear t1;refine Z1i 186 56 uPm _ zP (by rfl) _ _ (by rfl) mp f (by rfl) pm i (by rfl) hi _ e4 _ e5 ?_)
    | (clear t2;refine Z0t (by rfl) (by rfl) ?_;intro g5 w5 a5 a6 r5 b5)
    | (clear t3;refine Z0i (by rfl) _ _ (by rfl) g5 (by rfl) p d4 n4 (by rfl) _ r5 rfl ?_;intro w6 r6 s6;have B6:=key w5 w6 g5 a5 b5 s6))
   replace hHd:=fun u (hu:Below w6.heap.size w6 u)=>hHd u (Z01 B6 hu (Nat.le_refl _))
   replace hAh:=fun u (hu:Below w6.heap.size w6 u)=>hAh u (Z01 B6 hu (Nat.le_refl _))
   clear z0 z1 z2 e4 pm r5 b5 s6 hgt
   refine wp_region_held_drew (S:=fun u=>Below w6.heap.size w6 u) (by kernel_rfl) (Below.refl _ _).drew (fun hHeld=>?_)
   cases hw:p.wr with
   | true=>
     have hE:Hid (wE Z.l i=23):=by show _=_;rw [hE0,hw];rfl
     have hZ:Hid (Z.wr1 i=Z):=by show _=_;unfold GZ.wr1;rw [if_neg (by rw [hE.out];decide)]
     refine tl 0 (.pointer (some ⟨g5,8,none⟩)) rfl ?_
     try simp only [z]
     refine tl 1 (.bool true) rfl ?_ (fun u hu=>by have x1:=(Pt.cells (r6.later hu)).2.2.2.2.2.2.2.2;rw [hw]at x1;go_simp)
     try simp only [z]
     refine tl 2 (.bool true) rfl ?_
     try simp only [z]
     refine tm 3 undef rfl
      (Or.inr ⟨by rfl,rfl⟩) ?_
     try simp only [z]
     refine tm 4 undef rfl
      (Or.inr ⟨by rfl,rfl⟩) ?_
     try simp only [z]
     refine tm 5 undef rfl
      (Or.inr ⟨by rfl,rfl⟩) ?_
     try simp only [z]
     refine tl 6 (.bool true) rfl ?_
     try simp only [z]
     refine tl 7 (.bool true) rfl ?_
     try simp only [z]
     refine tm 8 undef rfl
      (Or.inr ⟨by rfl,rfl⟩) ?_
     try simp only [z]
     refine tm 9 undef rfl
      (Or.inr ⟨by rfl,rfl⟩) ?_
     try simp only [z]
     refine tm 10 undef rfl
      (Or.inr ⟨by rfl,rfl⟩) ?_
     try simp only [z]
     refine tm 11 undef rfl
      (Or.inr ⟨by rfl,rfl⟩) ?_
     try simp only [z]
     refine tm 12 undef rfl
      (Or.inr ⟨by rfl,rfl⟩) ?_
     try simp only [z]
     refine tl 13 (.bool true) rfl ?_
     try simp only [z]
     refine wpAnyH_done (by kernel_rfl) ?_ _
     have B9:=Z01 B6 hHeld (Nat.le_refl _)
     go_wp2_with fail
     go_returns
     exact⟨by rw [hE.out];rfl,⟨mp,mw,f,fw,by rw [hZ.out];exact H.later B9⟩,Stp.of_below B9 F⟩
   | false=>
     cases hh:held Z.l p with
     | true=>
       have hE:Hid (wE Z.l i=23):=by show _=_;rw [hE0,hw,hh];rfl
       have hZ:Hid (Z.wr1 i=Z):=by show _=_;unfold GZ.wr1;rw [if_neg (by rw [hE.out];decide)]
       refine tl 0 (.pointer (some ⟨g5,8,none⟩)) rfl ?_
       try simp only [z]
       refine tl 1 (.bool false) rfl ?_ (fun u hu=>by have x1:=(Pt.cells (r6.later hu)).2.2.2.2.2.2.2.2;rw [hw]at x1;go_simp)
       try simp only [z]
       refine tl 2 (.bool false) rfl ?_
       try simp only [z]
       refine tl 3 (.pointer (some ⟨g,0,none⟩)) rfl ?_
       try simp only [z]
       refine tm 4 (.agg (p.cs d4 n4).toArray) rfl
        (Z0w (by rfl) _ (by rfl) g5 (by rfl) p d4 n4 (fun u hu=>r6.later hu)) ?_
       try simp only [z]
       refine rd 5 rfl (fun K hK=>?_)
       go_simp
       refine(hHd _ (by assumption)).mono ?_
       rw [hh]
       rintro e w7 ⟨rfl,q7⟩
       try go_wp2_with fail
       refine hK.out _ _ (Z01 (by assumption) q7 (Nat.le_refl _)) (fun hHeld=>?_)
       clear hK K
       try simp only [z]
       refine tl 6 (.bool true) rfl ?_
       try simp only [z]
       refine tl 7 (.bool true) rfl ?_
       try simp only [z]
       refine tm 8 undef rfl
        (Or.inr ⟨by rfl,rfl⟩) ?_
       try simp only [z]
       refine tm 9 undef rfl
        (Or.inr ⟨by rfl,rfl⟩) ?_
       try simp only [z]
       refine tm 10 undef rfl
        (Or.inr ⟨by rfl,rfl⟩) ?_
       try simp only [z]
       refine tm 11 undef rfl
        (Or.inr ⟨by rfl,rfl⟩) ?_
       try simp only [z]
       refine tm 12 undef rfl
        (Or.inr ⟨by rfl,rfl⟩) ?_
       try simp only [z]
       refine tl 13 (.bool true) rfl ?_
       try simp only [z]
       refine wpAnyH_done (by kernel_rfl) ?_ _
       have B9:=Z01 B6 hHeld (Nat.le_refl _)
       go_wp2_with fail
       go_returns
       exact⟨by rw [hE.out];rfl,⟨mp,mw,f,fw,by rw [hZ.out];exact H.later B9⟩,Stp.of_below B9 F⟩
     | false=>
       cases hb:mtS (shB (ahd Z.l p)) (shK (ahd Z.l p)) p with
       | true=>
         have hE:Hid (wE Z.l i=23):=by show _=_;rw [hE0,hw,hh,← hbh,hb];rfl
         have hZ:Hid (Z.wr1 i=Z):=by show _=_;unfold GZ.wr1;rw [if_neg (by rw [hE.out];decide)]
         refine tl 0 (.pointer (some ⟨g5,8,none⟩)) rfl ?_
         try simp only [z]
         refine tl 1 (.bool false) rfl ?_ (fun u hu=>by have x1:=(Pt.cells (r6.later hu)).2.2.2.2.2.2.2.2;rw [hw]at x1;go_simp)
         try simp only [z]
         refine tl 2 (.bool false) rfl ?_
         try simp only [z]
         refine tl 3 (.pointer (some ⟨g,0,none⟩)) rfl ?_
         try simp only [z]
         refine tm 4 (.agg (p.cs d4 n4).toArray) rfl
          (Z0w (by rfl) _ (by rfl) g5 (by rfl) p d4 n4 (fun u hu=>r6.later hu)) ?_
         try simp only [z]
         refine rd 5 rfl (fun K hK=>?_)
         go_simp
         refine(hHd _ (by assumption)).mono ?_
         rw [hh]
         rintro e w7 ⟨rfl,q7⟩
         try go_wp2_with fail
         refine hK.out _ _ (Z01 (by assumption) q7 (Nat.le_refl _)) (fun hHeld=>?_)
         clear hK K
         try simp only [z]
         refine tl 6 (.bool false) rfl ?_
         try simp only [z]
         refine tl 7 (.bool false) rfl ?_
         try simp only [z]
         refine tl 8 (.pointer (some ⟨g,0,none⟩)) rfl ?_
         try simp only [z]
         refine tm 9 (.agg (p.cs d4 n4).toArray) rfl
          (Z0w (by rfl) _ (by rfl) g5 (by rfl) p d4 n4 (fun u hu=>r6.later hu)) ?_
         try simp only [z]
         refine tm 11 (.agg (p.cs d4 n4).toArray) rfl
          (Z0w (by rfl) _ (by rfl) g5 (by rfl) p d4 n4 (fun u hu=>r6.later hu)) ?_
         try simp only [z]
         refine rd 10 rfl (fun K hK=>?_)
         go_simp
         refine(hAh _ (by assumption)).mono ?_
         rintro e w8 ⟨rfl,q8⟩
         try go_wp2_with fail
         refine hK.out _ _ (Z01 (by assumption) q8 (Nat.le_refl _)) (fun hHeld=>?_)
         clear hK K
         try simp only [z]
         refine rd 12 rfl (fun K hK=>?_)
         go_simp
         refine(hMt _).mono ?_
         rw [hb]
         rintro e w9 ⟨rfl,q9⟩
         try go_wp2_with fail
         refine hK.out _ _ (Z01 (by assumption) q9 (Nat.le_refl _)) (fun hHeld=>?_)
         clear hK K
         try simp only [z]
         refine tl 13 (.bool true) rfl ?_
         try simp only [z]
         refine wpAnyH_done (by kernel_rfl) ?_ _
         have B9:=Z01 B6 hHeld (Nat.le_refl _)
         go_wp2_with fail
         go_returns
         exact⟨by rw [hE.out];rfl,⟨mp,mw,f,fw,by rw [hZ.out];exact H.later B9⟩,Stp.of_below B9 F⟩
       | false=>
         have hE:Hid (wE Z.l i=0):=by show _=_;rw [hE0,hw,hh,← hbh,hb];rfl
         have hZ:Hid (Z.wr1 i=⟨Z.last,setW Z.l p.id⟩):=by show _=_;unfold GZ.wr1;rw [if_pos hE.out,hp.2]
         refine tl 0 (.pointer (some ⟨g5,8,none⟩)) rfl ?_
         try simp only [z]
         refine tl 1 (.bool false) rfl ?_ (fun u hu=>by have x1:=(Pt.cells (r6.later hu)).2.2.2.2.2.2.2.2;rw [hw]at x1;go_simp)
         try simp only [z]
         refine tl 2 (.bool false) rfl ?_
         try simp only [z]
         refine tl 3 (.pointer (some ⟨g,0,none⟩)) rfl ?_
         try simp only [z]
         refine tm 4 (.agg (p.cs d4 n4).toArray) rfl
          (Z0w (by rfl) _ (by rfl) g5 (by rfl) p d4 n4 (fun u hu=>r6.later hu)) ?_
         try simp only [z]
         refine rd 5 rfl (fun K hK=>?_)
         go_simp
         refine(hHd _ (by assumption)).mono ?_
         rw [hh]
         rintro e w7 ⟨rfl,q7⟩
         try go_wp2_with fail
         refine hK.out _ _ (Z01 (by assumption) q7 (Nat.le_refl _)) (fun hHeld=>?_)
         clear hK K
         try simp only [z]
         refine tl 6 (.bool false) rfl ?_
         try simp only [z]
         refine tl 7 (.bool false) rfl ?_
         try simp only [z]
         refine tl 8 (.pointer (some ⟨g,0,none⟩)) rfl ?_
         try simp only [z]
         refine tm 9 (.agg (p.cs d4 n4).toArray) rfl
          (Z0w (by rfl) _ (by rfl) g5 (by rfl) p d4 n4 (fun u hu=>r6.later hu)) ?_
         try simp only [z]
         refine tm 11 (.agg (p.cs d4 n4).toArray) rfl
          (Z0w (by rfl) _ (by rfl) g5 (by rfl) p d4 n4 (fun u hu=>r6.later hu)) ?_
         try simp only [z]
         refine rd 10 rfl (fun K hK=>?_)
         go_simp
         refine(hAh _ (by assumption)).mono ?_
         rintro e w8 ⟨rfl,q8⟩
         try go_wp2_with fail
         refine hK.out _ _ (Z01 (by assumption) q8 (Nat.le_refl _)) (fun hHeld=>?_)
         clear hK K
         try simp only [z]
         refine rd 12 rfl (fun K hK=>?_)
         go_simp
         refine(hMt _).mono ?_
         rw [hb]
         rintro e w9 ⟨rfl,q9⟩
         try go_wp2_with fail
         refine hK.out _ _ (Z01 (by assumption) q9 (Nat.le_refl _)) (fun hHeld=>?_)
         clear hK K
         try simp only [z]
         refine tl 13 (.bool false) rfl ?_
         try simp only [z]
         refine wpAnyH_done (by kernel_rfl) ?_ _
         have B9:=Z01 B6 hHeld (Nat.le_refl _)
         have r9:=r6.later hHeld
         have x8:=(Pt.cells r9).2.2.2.2.2.2.2.2
         rw [hw]at x8
         have f8:=r9.frozen 8
         have ra:Cs (w9.setCell ⟨g5,8,none⟩ (.bool true)) g5 (p.wrt.cs d4 n4):=r9.set 8 (.bool true) rfl
         have sa:Stp (fun x=>x=g5) w9 (w9.setCell ⟨g5,8,none⟩ (.bool true)):=(Stp.refl (fun x=>x=g5) w9).setCell (p:=⟨g5,8,none⟩) (.inl rfl) _
         have Ba:Below w.heap.size w (w9.setCell ⟨g5,8,none⟩ (.bool true)):=key _ _ g5 a5 B9 sa
         clear hHeld hMt hAh hHd hsh hbh hE0 r9 sa
         go_wp2_with fail
         clear x8 f8
         generalize w9.setCell ⟨g5,8,none⟩ (.bool true)=wa at *
         have Ha:=H.later Ba
         have ma:=m4.later Ba
         refine Z0n (S:=fun u=>Below wa.heap.size wa u) _ _ (by simp only [List.pop_toArray,List.dropLast_cons_cons,List.dropLast_singleton];rfl) (by simp only [List.back?_toArray,List.getLast?_cons_cons,List.getLast?_singleton];rfl) (by kernel_rfl) (by kernel_rfl) (Below.refl _ _).drew (fun hHeld=>?_)
         refine tl 0 (.pointer (some ⟨g,0,none⟩)) rfl ?_
         try simp only [z]
         refine tl 1 (.pointer (some ⟨g,0,none⟩)) rfl ?_
         try simp only [z]
         refine tl 2 (.pointer (some ⟨g,1,none⟩)) rfl ?_
         try simp only [z]
         refine tl 3 (.map (some mp)) rfl ?_ (fun u hu=>by have x1:=(Ha.later hu).cells.2.1;go_simp)
         try simp only [z]
         refine tl 4 (.int .i64 i) rfl ?_
         try simp only [z]
         refine tm 5 (.agg (p.wrt.cs d4 n4).toArray) rfl
          (Z0w (by rfl) _ (by rfl) g5 (by rfl) p.wrt d4 n4 (fun u hu=>ra.later hu)) ?_
         try simp only [z]
         refine wpAnyH_done (by kernel_rfl) ?_ _
         have Hb:=Ha.later hHeld
         have mb:=ma.later hHeld
         have rb:=ra.later hHeld
         have Bb:=Z01 Ba hHeld (Nat.le_refl _)
         generalize wa.drew=wb at *
         show wpList _ _ _ [_] _ _
         refine Z3j 186 56 uPm (by rfl) _ _ _ (by rfl) mp f (by rfl) i (by rfl) _ (by rfl) Hb.pm Hb.keysP hi ?_
         intro wc mc sc
         have hg5:g5≠mp:=rb.notMap Hb.pm
         have rc:=rb.step sc hg5
         have hin:p.id ∈ wts Z.l p.at':=Z2b.2 ⟨p,hp.1,rfl,rfl,hw⟩
         have hne:wts Z.l p.at'≠ []:=fun e=>by rw [e]at hin;cases hin
         obtain⟨v,v1,v2,v3⟩:=Hb.ws p.at' hne
         obtain⟨va,vn,vc,rfl⟩:=v2.shape
         have hWt:=Zaz (w:=wc) (mp:=mp) (last:=Z.last) (fw:=fw) (mw:=mw) (g:=g) (L:=wts Z.l p.at') p.wrt d4 n4 ⟨va,vn,vc⟩ (Hb.c.step sc (Hb.c.notMap Hb.pm)) (Hb.wm.step sc (fun e=>Hb.ne e.symm)) v1 (v2.step sc (fun r hr e=>v2.map_ne Hb.pm (by rw [hr,e]))) (Zq4 H.ok.srt _) hin (by have:=H.ok.fewW p.at';rw [Z4l];omega) Hb.keysW hwp.s (fun e=>(v3 g e).2 rfl)
         have fin:=fun w2 (hW2:Wtd wc w2 mw fw p.at' (.slice va vn vc) ((wts Z.l p.at').filter fun y=> !(y==p.id)))=>Hb.wrote (w1:=wc) (w2:=w2) (d:=d4) (n:=n4) (v:= .slice va vn vc) hp.1 mb v1 sc (by rw [hp.2];exact mc) hW2 hne
         clear Ha ma ra Ba
         have t4:True:=trivial
         go_wp2_with (first
          | (clear t4;refine Z0c (by rfl) _ (by rfl) g5 (by rfl) p.wrt d4 n4 rc ?_)
          | (go_at_call 310;refine hWt.mono ?_;rintro e wd ⟨rfl,hWd⟩;obtain⟨g1,g2⟩:=fin wd hWd))
         go_returns
         exact⟨by rw [hE.out];rfl,by rw [hZ.out];exact g1,(Stp.of_below Bb F).trans g2⟩
theorem Gh.later {w w':World} {g:Nat} {Z:GZ} {E F:Nat→Prop} (h:Gh w g Z E F) (k:Below w.heap.size w w'):Gh w' g Z E F:=by
 obtain⟨mp,mw,f,fw,H⟩:=h;exact⟨mp,mw,f,fw,H.later k⟩
theorem Zkt {Z:GZ} {i:Int} {t:Nat} (h:∀ p ∈ Z.l,p.needs.length≤t):∀ p ∈ (Z.wr1 i).l,p.needs.length≤t:=by
 unfold GZ.wr1
 split
 · intro p hp
   obtain⟨q,h1,rfl⟩:=List.mem_map.1 hp
   have:=h q h1
   split<;>exact this
 · exact h
theorem Ze4 {t:Nat} :∀ (l:List Int) {Z:GZ},(∀ p ∈ Z.l,p.needs.length≤t)→∀ p ∈ (Z.wr l).l,p.needs.length≤t
 | [],_,h=>h
 | i::r,Z,h=>by
   unfold GZ.wr
   split
   · exact Ze4 r (Zkt h)
   · exact h
theorem Zq2 (Z:GZ):∀ (l:List Int) (k:Nat),k < l.length→Z.wrE (l.take k)=0→(wE (Z.wr (l.take k)).l (l.getD k 0)=0→Z.wrE (l.take (k+1))=0∧Z.wr (l.take (k+1))=(Z.wr (l.take k)).wr1 (l.getD k 0))∧(wE (Z.wr (l.take k)).l (l.getD k 0)≠0→Z.wrE l=wE (Z.wr (l.take k)).l (l.getD k 0)∧Z.wr l=Z.wr (l.take k)):=by
 intro l
 induction l generalizing Z with
 | nil=>intro k hk;simp at hk
 | cons a t ih=>
   intro k hk h0
   cases k with
   | zero=>
     simp only [List.take_zero,GZ.wr,List.getD_cons_zero]
     refine⟨fun h=>?_,fun h=>?_⟩
     · simp [GZ.wrE,GZ.wr,h]
     · simp [GZ.wrE,GZ.wr,h]
   | succ k=>
     have ha:wE Z.l a=0:=by
      refine Decidable.byContradiction fun h=>?_
      rw [List.take_succ_cons,GZ.wrE,if_neg h]at h0
      exact h h0
     rw [List.take_succ_cons,GZ.wrE,if_pos ha]at h0
     have:=ih (Z.wr1 a) k (by simpa using hk) h0
     rw [List.getD_cons_succ,List.take_succ_cons,List.take_succ_cons]
     simp only [GZ.wrE,GZ.wr,if_pos ha]
     exact this
set_option maxRecDepth 100000 in
set_option maxHeartbeats 4000000 in
theorem Z30 {w:World} {g:Nat} {Z:GZ} {E F:Nat→Prop} (H:Gh w g Z E F) {s:Sv} {l:List Int} {B:Nat→Prop} (hs:InsS w s l) (he:InE B s) (hB:∀ x,B x→¬F x) (hl:l.length≤100000) (hnl:∀ p ∈ Z.l,p.needs.length≤100000):
 Calls Tryz.prog 223 #[.pointer (some ⟨g,0,none⟩), .slice s.a s.n s.c] w fun e w'=>e= .returned (.int .i64 (Z.wrE l))∧Gh w' g (Z.wr l) E F∧Stp F w w':=by
 have hln:=hs.i.len
 have hwf:=hs.i.wf
 obtain⟨sa,sn,sc⟩:=s
 simp only at hln ⊢
 subst hln
 go_enter Tryz.func223,Tryz.ntmps223
 go_wp2
 go_loopw [12] (fun x wr=>∃ k:Nat,k≤l.length∧x= .int .i64 (k:Int)∧Gh wr g (Z.wr (l.take k)) E F∧Z.wrE (l.take k)=0∧Stp F w wr) (fun x _=>l.length - (intOf x).toNat)
 case atStart=>exact⟨0,Nat.zero_le _,rfl,H,rfl,Stp.refl _ _⟩
 case round=>
  obtain⟨k,hk,rfl,H4,h0,st⟩:=hrel
  by_cases hkl:k < l.length
  · have iv4:=hs.step st he hB
    obtain⟨b,o,e,hcs⟩:=iv4.i.cell (by simp only;omega)
    have ck:=hcs k (by simp only;omega)
    simp only at e
    subst e
    have hw0:wfi (l.getD k 0):=by
     rw [List.getD_eq_getElem?_getD,List.getElem?_eq_getElem hkl];exact hwf _ (List.getElem_mem _)
    obtain⟨q1,q2⟩:=Zq2 Z l k hkl h0
    obtain⟨mp,mw,f,fw,H5⟩:=H4
    have hW:=Zhq H5 (l.getD k 0) hw0 (Ze4 _ hnl)
    have q1':Hid (wE (Z.wr (l.take k)).l (l.getD k 0)=0→Z.wrE (l.take (k+1))=0∧Z.wr (l.take (k+1))=(Z.wr (l.take k)).wr1 (l.getD k 0)):=q1
    have q2':Hid (wE (Z.wr (l.take k)).l (l.getD k 0)≠0→Z.wrE l=wE (Z.wr (l.take k)).l (l.getD k 0)∧Z.wr l=Z.wr (l.take k)):=q2
    have hZ0:wE (Z.wr (l.take k)).l (l.getD k 0)≠0→(Z.wr (l.take k)).wr1 (l.getD k 0)=Z.wr (l.take k):=fun h=>by unfold GZ.wr1;rw [if_neg h]
    have hZ0':Hid (wE (Z.wr (l.take k)).l (l.getD k 0)≠0→(Z.wr (l.take k)).wr1 (l.getD k 0)=Z.wr (l.take k)):=hZ0
    clear q1 q2 hcs iv4 hZ0
    generalize l.getD k 0=y at *
    have a9:(k:Int) < (l.length:Int):=by omega
    generalize hx:wE (Z.wr (l.take k)).l y=r at *
    clear hx
    by_cases hr:r=0
    · obtain⟨u1,u2⟩:=q1'.out hr
      have u1':Hid (Z.wrE (l.take (k+1))=0):=u1
      have u2':Hid (Z.wr (l.take (k+1))=(Z.wr (l.take k)).wr1 y):=u2
      clear u1 u2 q1' q2' hZ0'
      subst hr
      go_wp2_with (first | (go_at_call 279;refine hW.mono ?_;rintro e w7 ⟨rfl,H7,s7⟩))
      go_roundw
      case rel=>exact⟨k+1,by omega,by go_num,by rw [u2'.out];exact H7,u1'.out,st.trans s7⟩
      case measure=>simp [intOf];omega
    · obtain⟨u1,u2⟩:=q2'.out hr
      have u1':Hid (Z.wrE l=r):=u1
      have u2':Hid (Z.wr l=(Z.wr (l.take k)).wr1 y):=by show _=_;rw [u2,hZ0'.out hr]
      clear u1 u2 q1' q2' hZ0'
      go_wp2_with (first | (go_at_call 279;refine hW.mono ?_;rintro e w7 ⟨rfl,H7,s7⟩))
      go_returns
      exact⟨Z3l u1'.out.symm,by rw [u2'.out];exact H7,st.trans s7⟩
  · have hk':k=l.length:=by omega
    subst hk'
    rw [List.take_length]at H4 h0
    have h0':Hid (Z.wrE l=0):=h0
    clear h0
    go_wp2
    go_returns
    exact⟨Z3l h0'.out.symm,H4,st⟩
theorem Gr.bump {w w':World} {g mp mw:Nat} {f fw:Int→Option Value} {Z:GZ} {E F:Nat→Prop} (H:Gr w g mp mw f fw Z E F) (hlt:Z.last < 2000) (k:Stp (fun x=>x=g) w w') (hc:Cs w' g [.int .i64 (Z.last+1), .map (some mp), .map (some mw)]):Gr w' g mp mw f fw ⟨Z.last+1,Z.l⟩ E F:=by
 refine⟨hc,H.pm.step k (H.c.notMap H.pm).symm,H.wm.step k (H.c.notMap H.wm).symm,fun i p hp=>?_,H.pn,fun s hs=>?_,H.wn,H.ap,H.fg,H.fm,H.fw',H.ne,fun x hx=>Nat.lt_of_lt_of_le (H.lt x hx) k.size,fun x hx=>Nat.lt_of_lt_of_le (H.el x hx) k.size,H.ef,?_⟩
 · obtain⟨d,n,h1,h2⟩:=H.ps i p hp
   exact⟨d,n,h1,h2.step k (fun x hx e=>H.ef x hx (e▸H.fg))⟩
 · obtain⟨v,h1,h2,h3⟩:=H.ws s hs
   exact⟨v,h1,h2.step k (fun r hr=>(h3 r hr).2),h3⟩
 · exact⟨H.ok.srt,fun p hp=>by have:=H.ok.rng p hp;simp only;omega,H.ok.ft,H.ok.nds,H.ok.wf,by have:=H.ok.l0;simp only;omega,by simp only;omega⟩
theorem GZ.ok.add {Z:GZ} {t:Int} (h:Z.ok t) {p:Pt} (h1:∀ q ∈ Z.l,q.id < p.id) (h2:1≤p.id∧p.id≤Z.last) (h3:fit p=true) (h4:∀ x ∈ p.needs,1≤x∧x < p.id) (h5:wfi p.own∧wfi p.child):(GZ.mk Z.last (Z.l++ [p])).ok t:=by
 have mem:∀ {P:Pt→Prop},(∀ q ∈ Z.l,P q)→P p→∀ q ∈ Z.l++ [p],P q:=fun ha hb q hq=>by
  rcases List.mem_append.1 hq with hq | hq
  · exact ha q hq
  · rw [List.mem_singleton.1 hq];exact hb
 refine⟨?_,mem h.rng h2,mem h.ft h3,mem h.nds h4,mem h.wf h5,h.l0,h.lt⟩
 exact List.pairwise_append.2 ⟨h.srt,List.pairwise_singleton _ _,fun a ha b hb=>by rw [List.mem_singleton.1 hb];exact h1 a ha⟩
theorem Gr.added {w w1 w2 w3:World} {g mp mw:Nat} {f fw:Int→Option Value} {Z:GZ} {E F E0:Nat→Prop} (H:Gr w g mp mw f fw Z E F) {p:Pt} {d n:Sv} {v v':Value} (h1:∀ q ∈ Z.l,q.id < p.id) (h2:1≤p.id∧p.id≤Z.last) (h3:fit p=true) (h4:∀ x ∈ p.needs,1≤x∧x < p.id) (h5:wfi p.own∧wfi p.child) (hw:p.wr=false)
 (hpm:PtM w E0 p d n) (hE0:∀ x,E0 x→x < w.heap.size∧¬F x) (hv:(fw p.at').getD (.slice none 0 0)=v)
 (s1:Stp (fun x=>x=mp) w w1) (m1:MpI Tryz.prog 3 w1 mp (upd f p.id (some (.agg (p.cs d n).toArray)))) (s2:Stp (fun x=>v.ownBlock=some x) w1 w2) (o2:OwV w2 v' (wts Z.l p.at'++ [p.id])) (hb:∀ r,v'.ownBlock=some r→v.ownBlock=some r∨(w1.heap.size≤r∧r < w2.heap.size))
 (s3:Stp (fun x=>x=mw) w2 w3) (m3:MpI Tryz.prog 3 w3 mw (upd fw p.at' (some v'))):
 Gr w3 g mp mw (upd f p.id (some (.agg (p.cs d n).toArray))) (upd fw p.at' (some v')) ⟨Z.last,Z.l++ [p]⟩ (fun x=>E x∨E0 x) (fun x=>F x∨v'.ownBlock=some x)∧Stp F w w3∧Grew F (fun x=>F x∨v'.ownBlock=some x) w w3:=by
 have hvo:∀ r,v.ownBlock=some r→F r∧r≠g∧∃ u,fw p.at'=some u∧u.ownBlock=some r:=fun r hr=>by
  by_cases he:wts Z.l p.at'= []
  · rw [H.wn _ he]at hv;subst hv;cases hr
  · obtain⟨u,e1,e2,e3⟩:=H.ws _ he
    rw [e1]at hv
    have hv':u=v:=hv
    subst hv'
    exact⟨(e3 r hr).1,(e3 r hr).2,u,e1,hr⟩
 have hvm:v.ownBlock≠some mp∧v.ownBlock≠some mw:=by
  by_cases he:wts Z.l p.at'= []
  · rw [H.wn _ he]at hv;subst hv;exact⟨(fun e=>by cases e),(fun e=>by cases e)⟩
  · obtain⟨u,e1,e2,e3⟩:=H.ws _ he
    rw [e1]at hv
    have hv':u=v:=hv
    subst hv'
    exact⟨e2.map_ne H.pm,e2.map_ne H.wm⟩
 have sF:Stp F w w3:=((s1.mono (fun x e=> .inl (e▸H.fm))).next s2 (fun x e=> .inl (hvo x e).1)).next s3 (fun x e=> .inl (e▸H.fw'))
 have hnew:∀ r,v'.ownBlock=some r→F r∨(w.heap.size≤r∧r < w3.heap.size):=fun r hr=>by
  rcases hb r hr with e | e
  · exact .inl (hvo r e).1
  · exact .inr ⟨Nat.le_trans s1.size e.1,Nat.lt_of_lt_of_le e.2 s3.size⟩
 have hG:Grew F (fun x=>F x∨v'.ownBlock=some x) w w3:=fun x hx=>by
  rcases hx with hx | hx
  · exact .inl hx
  · exact hnew x hx
 have hng:v'.ownBlock≠some g:=fun e=>by
  rcases hb g e with e | e
  · exact(hvo g e).2.1 rfl
  · have:=H.lt g H.fg;have:=s1.size;omega
 have hid:∀ q ∈ Z.l,q.id≠p.id:=fun q hq=>by have:=h1 q hq;omega
 have eW:∀ s,wts (Z.l++ [p]) s=if s=p.at' then wts Z.l s++ [p.id]else wts Z.l s:=fun s=>Znc Z.l p s hw
 refine⟨⟨((H.c.step s1 (H.c.notMap H.pm)).step s2 (fun e=>(hvo g e).2.1 rfl)).step s3 (H.c.notMap H.wm),(m1.step s2 hvm.1).step s3 H.ne,m3,fun i q hq=>?_,fun i hi=>?_,fun s hs=>?_,fun s hs=>?_,?_, .inl H.fg, .inl H.fm, .inl H.fw',H.ne,fun x hx=>?_,fun x hx=>?_,fun x hx hF=>?_,H.ok.add h1 h2 h3 h4 h5⟩,sF,hG⟩
 · simp only at hq
   rw [Zcl rfl hid]at hq
   unfold upd
   by_cases e:i=p.id
   · rw [if_pos e]at hq ⊢
     injection hq with hq;subst hq
     exact⟨d,n,rfl,(hpm.step sF (fun x hx=>(hE0 x hx).2)).mono (fun x hx=> .inr hx)⟩
   · rw [if_neg e]at hq ⊢
     obtain⟨d',n',h1,h2⟩:=H.ps i q hq
     exact⟨d',n',h1,(h2.step sF H.ef).mono (fun x hx=> .inl hx)⟩
 · simp only at hi
   rw [Zcl rfl hid]at hi
   unfold upd
   by_cases e:i=p.id
   · rw [if_pos e]at hi;cases hi
   · rw [if_neg e]at hi ⊢;exact H.pn i hi
 · simp only at hs ⊢
   rw [eW]at hs ⊢
   unfold upd
   by_cases e:s=p.at'
   · rw [if_pos e,if_pos e]
     refine⟨v',rfl,?_,fun r hr=>⟨.inr hr,fun e2=>hng (e2▸hr)⟩⟩
     rw [e]
     exact o2.step s3 (fun r hr e2=>by
      rcases hb r hr with e3 | e3
      · exact hvm.2 (by rw [e3,e2])
      · have:=H.lt mw H.fw';have:=s1.size;omega)
   · rw [if_neg e]at hs
     rw [if_neg e,if_neg e]
     obtain⟨u,q1,q2,q3⟩:=H.ws s hs
     refine⟨u,q1,((q2.step s1 (fun r hr e2=>q2.map_ne H.pm (by rw [hr,e2]))).step s2 (fun r hr e2=>?_)).step s3 (fun r hr e2=>q2.map_ne H.wm (by rw [hr,e2])),fun r hr=>⟨.inl (q3 r hr).1,(q3 r hr).2⟩⟩
     obtain⟨_,_,u2,e3,e4⟩:=hvo r e2
     exact e (H.ap s p.at' u u2 r q1 e3 hr e4)
 · simp only at hs
   rw [eW]at hs
   unfold upd
   by_cases e:s=p.at'
   · rw [if_pos e]at hs;simp at hs
   · rw [if_neg e]at hs ⊢;exact H.wn s hs
 · intro s s' a b r ha hb' hra hrb
   unfold upd at ha hb'
   by_cases e:s=p.at'
   · by_cases e':s'=p.at'
     · rw [e,e']
     · rw [if_pos e]at ha;rw [if_neg e']at hb'
       injection ha with ha;subst ha
       exfalso
       rcases hb r hra with e3 | e3
       · obtain⟨_,_,u2,e4,e5⟩:=hvo r e3
         exact e' (H.ap s' p.at' b u2 r hb' e4 hrb e5)
       · have hne:wts Z.l s'≠ []:=fun e6=>by rw [H.wn s' e6]at hb';cases hb'
         obtain⟨u,q1,q2,q3⟩:=H.ws s' hne
         rw [hb']at q1;injection q1 with q1;subst q1
         have:=H.lt r (q3 r hrb).1;have:=s1.size;omega
   · by_cases e':s'=p.at'
     · rw [if_neg e]at ha;rw [if_pos e']at hb'
       injection hb' with hb';subst hb'
       exfalso
       rcases hb r hrb with e3 | e3
       · obtain⟨_,_,u2,e4,e5⟩:=hvo r e3
         exact e (H.ap s p.at' a u2 r ha e4 hra e5)
       · have hne:wts Z.l s≠ []:=fun e6=>by rw [H.wn s e6]at ha;cases ha
         obtain⟨u,q1,q2,q3⟩:=H.ws s hne
         rw [ha]at q1;injection q1 with q1;subst q1
         have:=H.lt r (q3 r hra).1;have:=s1.size;omega
     · rw [if_neg e]at ha;rw [if_neg e']at hb'
       exact H.ap s s' a b r ha hb' hra hrb
 · rcases hx with hx | hx
   · exact Nat.lt_of_lt_of_le (H.lt x hx) sF.size
   · rcases hnew x hx with e | e
     · exact Nat.lt_of_lt_of_le (H.lt x e) sF.size
     · exact e.2
 · rcases hx with hx | hx
   · exact Nat.lt_of_lt_of_le (H.el x hx) sF.size
   · exact Nat.lt_of_lt_of_le (hE0 x hx).1 sF.size
 · rcases hx with hx | hx
   · rcases hF with hF | hF
     · exact H.ef x hx hF
     · rcases hnew x hF with e | e
       · exact H.ef x hx e
       · have:=H.el x hx;omega
   · rcases hF with hF | hF
     · exact(hE0 x hx).2 hF
     · rcases hnew x hF with e | e
       · exact(hE0 x hx).2 e
       · have:=(hE0 x hx).1;omega
end Go.Proofs.YtogdffonjhghcaaGreatDoor
