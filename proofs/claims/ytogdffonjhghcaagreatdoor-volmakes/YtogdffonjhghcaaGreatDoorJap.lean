/-
  Texts of my own, joined: no statement is proved here.
-/
import Derived.Maps.AppendAt
import Derived.Test.YtogdffonjhghcaaGreatDoorJao
set_option linter.unusedSimpArgs false
set_option linter.unusedVariables false
namespace Go.Proofs.YtogdffonjhghcaaGreatDoor
open Go.ChangeShapes Go.WideShapes Go.ChangeAt Go.RowKit
section
variable {w w' : World} {gc g mp n : Nat} {ov : Value} {h m : Int} {lp : Int → Option Pg} {lo : List Int} {f : Int → Option Value} {E : Nat → Prop}
theorem Cm.slice (H:Cm w gc g mp ov n h m lp lo f E):∃ a c,ov= .slice a lo.length c:=by
 rcases H.ow.row with⟨e1,e2⟩ | ⟨r,cap,cur,e1,_⟩
 · exact⟨none,0,by rw [e2];exact e1⟩
 · exact⟨_,cap,e1⟩
end
theorem Zed {l:El} (hn:(keys l).Nodup) (i:Int):fndC (rmv l i)=fun x=>if x=i then none else fndC l x:=by
 funext x;exact Z7r hn x
theorem Cx.gone {w w1 w2:World} {gc g mp:Nat} {sp ov ov':Value} {Z:CZ} {f:Int→Option Value} {E F G:Nat→Prop} (H:Cx w gc g sp Z mp ov f E F G) (hn:(keys Z.l).Nodup) {i:Int} (t1:Stp (fun x=>x=mp) w w1) (m1:MpI Tryz.prog 3 w1 mp (upd f i none))
 (k:Stp (fun x=>ov.ownBlock=some x) w1 w2) (ho:OwV w2 ov' ((keys Z.l).erase i)) (hb:ov'.ownBlock=ov.ownBlock):
 ∃ E',Cx (w2.setCell ⟨gc,3,none⟩ ov') gc g sp (Z.less i) mp ov' (upd f i none) E' F G∧Stp E w (w2.setCell ⟨gc,3,none⟩ ov')∧Grew E E' w (w2.setCell ⟨gc,3,none⟩ ov'):=by
 have h1:=H.cm.gone t1 m1
 have h2:=h1.order k ho (fun r hr=> .inl (by rw [← hb];exact hr))
 have s3:Stp (fun x=>x=gc) w2 (w2.setCell ⟨gc,3,none⟩ ov'):=(Stp.refl (fun x=>x=gc) w2).setCell (p:=⟨gc,3,none⟩) (.inl rfl) _
 have s:Stp E w (w2.setCell ⟨gc,3,none⟩ ov'):=((t1.mono (fun x e=> .inl (e▸H.cm.em))).next k (fun x e=> .inl (H.cm.eo x e).1)).next s3 (fun x e=> .inl (e▸H.cm.eg))
 have hg:Grew E (fun x=>E x∨ov'.ownBlock=some x) w (w2.setCell ⟨gc,3,none⟩ ov'):=fun x hx=>by
  rcases hx with hx | hx
  · exact .inl hx
  · exact .inl (H.cm.eo x (by rw [← hb];exact hx)).1
 refine⟨_,H.own s rfl rfl ?_ hg,s,hg⟩
 show Cm _ gc g mp ov' Z.n Z.h Z.m (fndC (rmv Z.l i)) (keys (rmv Z.l i)) (upd f i none) _
 rw [Zed hn,Z3x]
 exact h2
theorem Al.left {E F G:Nat→Prop} {w w':World} (h:Stp E w w'):Stp (Al E F G) w w':=h.mono (fun x e=> .inl (.inl e))
set_option maxRecDepth 100000 in
set_option maxHeartbeats 2000000 in
theorem Z8w {w:World} {gc g mp:Nat} {sp ov:Value} {Z:CZ} {f:Int→Option Value} {E F G:Nat→Prop} {t:Nat} (H:Cx w gc g sp Z mp ov f E F G) (ok:Z.ok t) (ht:t≤10000):
 Calls Tryz.prog 251 #[.pointer (some ⟨gc,0,none⟩)] w fun e w'=>e= .returned (.int .i64 Z.roomE)∧∃ ov' f' E' F',Cx w' gc g sp Z.room mp ov' f' E' F' G∧Stp (Al E F G) w w'∧Grew E E' w w'∧Grew F F' w w':=by
 obtain⟨y0,y1,y2,y3,y4,y5⟩:=H.cm.cells
 obtain⟨a0,c0,hov⟩:=H.cm.slice
 rw [Z10]at hov
 subst hov
 have hS:∀ u,Below w.heap.size w u→(u.cell? ⟨gc,1,none⟩=some (.int .i64 Z.n)∧u.cell? ⟨gc,3,none⟩=some (.slice a0 Z.l.length c0)):=fun u hu=>
  ⟨(Stp.of_below hu (fun _=>False)).cell y1 id,(Stp.of_below hu (fun _=>False)).cell y3 id⟩
 by_cases hl:Z.l.length < Z.n
 · have e1:Z.roomE=0:=by unfold CZ.roomE;rw [if_pos hl]
   have e2:Z.room=Z:=by unfold CZ.room;rw [if_pos hl]
   rw [e1,e2];clear e1 e2
   have hl':(Z.l.length:Int) < (Z.n:Int):=by omega
   go_enter Tryz.func251,Tryz.ntmps251
   go_wp2
   refine wp_region_held_drew (S:=fun u=>u.cell? ⟨gc,1,none⟩=some (.int .i64 Z.n)∧u.cell? ⟨gc,3,none⟩=some (.slice a0 Z.l.length c0)) (by kernel_rfl) (hS _ (Below.refl _ _).drew) (fun hHeld=>?_)
   refine tl 0 (.pointer (some ⟨gc,0,none⟩)) rfl ?_
   try simp only [z]
   refine tl 1 (.pointer (some ⟨gc,0,none⟩)) rfl ?_
   try simp only [z]
   refine tl 2 (.pointer (some ⟨gc,3,none⟩)) rfl ?_
   try simp only [z]
   refine tl 3 (.slice a0 Z.l.length c0) rfl ?_ (fun u hu=>by have x1:=hu.2;go_simp)
   try simp only [z]
   refine tl 4 (.int .i64 (Z.l.length:Int)) rfl ?_
   try simp only [z]
   refine tl 5 (.pointer (some ⟨gc,0,none⟩)) rfl ?_
   try simp only [z]
   refine tl 6 (.pointer (some ⟨gc,0,none⟩)) rfl ?_
   try simp only [z]
   refine tl 7 (.pointer (some ⟨gc,1,none⟩)) rfl ?_
   try simp only [z]
   refine tl 8 (.int .i64 (Z.n:Int)) rfl ?_ (fun u hu=>by have x1:=hu.1;go_simp)
   try simp only [z]
   refine tl 9 (.bool true) rfl ?_
   try simp only [z]
   refine wpAnyH_done (by kernel_rfl) ?_ _
   go_wp2
   go_returns
   exact⟨rfl,_,f,E,F,H.later (by go_grown),Stp.of_below (by go_grown) _,Grew.refl _ _ _,Grew.refl _ _ _⟩
 · have hl':¬((Z.l.length:Int) < (Z.n:Int)):=by omega
   have hne : keys Z.l ≠ [] := fun e => by have:Z.l.length=0:=by rw [← Z10,e];rfl
                                           have:=ok.n1;omega
   have hwf:∀ e ∈ Z.l,(Lit.int .i64 e.1).wf=true:=fun e he=>Zro H.dd.d.ok.n2 (ok.inn e he)
   have ho:=Z8t Z.l.length Z.l rfl
   have hO:=fun u (hu:Below w.heap.size w u)=>Zgw (H.later hu).cm ok.nd hwf (by have:=ok.len;have:=ok.n2;omega)
   cases hv:vic Z.l with
   | none=>
     have e1:Z.roomE=4:=by unfold CZ.roomE;rw [if_neg hl,hv]
     have e2:Z.room=Z:=by unfold CZ.room;rw [if_neg hl,hv]
     rw [hv]at ho
     have ho:oldN Z.l Z.l.length= -1:=ho
     rw [e1,e2];clear e1 e2
     rw [ho]at hO
     go_enter Tryz.func251,Tryz.ntmps251
     go_wp2
     refine wp_region_held_drew (S:=fun u=>u.cell? ⟨gc,1,none⟩=some (.int .i64 Z.n)∧u.cell? ⟨gc,3,none⟩=some (.slice a0 Z.l.length c0)) (by kernel_rfl) (hS _ (Below.refl _ _).drew) (fun hHeld=>?_)
     refine tl 0 (.pointer (some ⟨gc,0,none⟩)) rfl ?_
     try simp only [z]
     refine tl 1 (.pointer (some ⟨gc,0,none⟩)) rfl ?_
     try simp only [z]
     refine tl 2 (.pointer (some ⟨gc,3,none⟩)) rfl ?_
     try simp only [z]
     refine tl 3 (.slice a0 Z.l.length c0) rfl ?_ (fun u hu=>by have x1:=hu.2;go_simp)
     try simp only [z]
     refine tl 4 (.int .i64 (Z.l.length:Int)) rfl ?_
     try simp only [z]
     refine tl 5 (.pointer (some ⟨gc,0,none⟩)) rfl ?_
     try simp only [z]
     refine tl 6 (.pointer (some ⟨gc,0,none⟩)) rfl ?_
     try simp only [z]
     refine tl 7 (.pointer (some ⟨gc,1,none⟩)) rfl ?_
     try simp only [z]
     refine tl 8 (.int .i64 (Z.n:Int)) rfl ?_ (fun u hu=>by have x1:=hu.1;go_simp)
     try simp only [z]
     refine tl 9 (.bool false) rfl ?_
     try simp only [z]
     refine wpAnyH_done (by kernel_rfl) ?_ _
     go_wp2_with (go_at_call 297;refine(hO _ (Below.refl _ _).drew).mono ?_;rintro e w1 ⟨rfl,b1⟩)
     go_returns
     have B1:Below w.heap.size w w1:=Z01 (Below.refl w.heap.size w).drew b1 (Nat.le_refl _)
     exact⟨rfl,_,f,E,F,H.later B1,Stp.of_below B1 _,Grew.refl _ _ _,Grew.refl _ _ _⟩
   | some e=>
     rw [hv]at ho
     obtain⟨k,hk,ho1,hke⟩:=ho
     rw [ho1]at hO
     have he:=(Zax hv).1
     have hke':(keys Z.l).getD k 0=e.1:=by unfold keys;rw [List.getD_eq_getElem?_getD,List.getElem?_map,hke];rfl
     have her:=Zci (keys Z.l) k ok.nd (by rw [Z10];exact hk)
     rw [hke']at her
     have hwe:=hwf e he
     obtain⟨g0,cap,cur,e5,hw⟩:=H.cm.ow.row1 hne
     injection e5 with e5 e6 e7
     subst e5;subst e7;clear e6
     have a1:(0:Int)≤(k:Int):=by omega
     have a2:(k:Int) < (Z.l.length:Int):=by omega
     have a3:IntKind.i64.wrap ((k:Int)+1)=(k:Int)+1:=by rw [IntKind.wrap_i64];have:=ok.len;have:=ok.n2;omega
     have e1:Z.roomE=Z.backE e.1:=by unfold CZ.roomE;rw [if_neg hl,hv]
     rw [e1];clear e1
     have ck:=hw.cell k (by rw [Z10];exact hk)
     rw [hke']at ck
     by_cases hbE:Z.backE e.1=0
     · have e2:Z.room=(Z.back e.1).less e.1:=by unfold CZ.room;rw [if_neg hl,hv];simp only [hbE,if_true]
       have hE2:Hid (Z.room=(Z.back e.1).less e.1):=e2
       have hEB:Hid (Z.backE e.1=0):=hbE
       have hBk:=fun u (hu:Below w.heap.size w u)=>Z6u (H.later hu) ok ht e.1 hwe
       rw [hbE]at hBk;clear e2 hbE
       go_enter Tryz.func251,Tryz.ntmps251
       go_wp2
       refine wp_region_held_drew (S:=fun u=>u.cell? ⟨gc,1,none⟩=some (.int .i64 Z.n)∧u.cell? ⟨gc,3,none⟩=some (.slice (some ⟨g0,0,none⟩) Z.l.length c0)) (by kernel_rfl) (hS _ (Below.refl _ _).drew) (fun hHeld=>?_)
       refine tl 0 (.pointer (some ⟨gc,0,none⟩)) rfl ?_
       try simp only [z]
       refine tl 1 (.pointer (some ⟨gc,0,none⟩)) rfl ?_
       try simp only [z]
       refine tl 2 (.pointer (some ⟨gc,3,none⟩)) rfl ?_
       try simp only [z]
       refine tl 3 (.slice (some ⟨g0,0,none⟩) Z.l.length c0) rfl ?_ (fun u hu=>by have x1:=hu.2;go_simp)
       try simp only [z]
       refine tl 4 (.int .i64 (Z.l.length:Int)) rfl ?_
       try simp only [z]
       refine tl 5 (.pointer (some ⟨gc,0,none⟩)) rfl ?_
       try simp only [z]
       refine tl 6 (.pointer (some ⟨gc,0,none⟩)) rfl ?_
       try simp only [z]
       refine tl 7 (.pointer (some ⟨gc,1,none⟩)) rfl ?_
       try simp only [z]
       refine tl 8 (.int .i64 (Z.n:Int)) rfl ?_ (fun u hu=>by have x1:=hu.1;go_simp)
       try simp only [z]
       refine tl 9 (.bool false) rfl ?_
       try simp only [z]
       refine wpAnyH_done (by kernel_rfl) ?_ _
       clear hHeld hS
       go_wp2_with (first
        | (go_at_call 297;refine(hO _ (Below.refl _ _).drew).mono ?_;rintro e w1 ⟨rfl,b1⟩
           have B1:Below w.heap.size w w1:=Z01 (Below.refl w.heap.size w).drew b1 (Nat.le_refl _)
           have z3:=(Stp.of_below B1 (fun _=>False)).cell y3 id
           have zk:=(Stp.of_below B1 (fun _=>False)).cell ck id
           clear hO b1)
        | (go_at_call 278;refine(hBk _ B1).mono ?_;rintro e w2 ⟨rfl,F',H2,s2,g2⟩
           have q2:=H2.cm.c.cell 2 _ rfl
           clear hBk)
        | (refine Z3r (t:=181) (by rfl) _ _ (by rfl) (by rfl) (by rfl) (fun ty=>H2.cm.mm.drop u3 uPgs hwe ty) ?_;rintro w3 ⟨m3,t3⟩
           have h3:=H2.cm.gone (Z0a t3) m3
           have q3:=h3.c.cell 3 _ rfl
           have o3:=h3.ow
           rw [Z2r]at o3)
        | (go_at_call 189;refine(Z69 o3 k (by rw [Z10];exact hk)).mono ?_;rintro e w4 ⟨ov',rfl,o4,b4,s4⟩
           rw [her]at o4
           have h4:=h3.c.step s4 (fun e=>(h3.eo gc e).2 rfl)
           have q4:=h4.cell 3 _ rfl
           have f4:=h4.frozen 3
           obtain⟨a5,n5,c5,rfl⟩:=o4.shape))
       go_returns
       have hn2:(keys (Z.back e.1).l).Nodup:=by rw [Z2r];exact ok.nd
       obtain⟨E',H5,s5,g5⟩:=H2.gone hn2 (Z0a t3) m3 s4 (by rw [Z2r];exact o4) b4
       have S2:Stp (Al E F G) w w2:=(Stp.of_below B1 (Al E F G)).trans s2
       refine⟨by rw [hEB.out];rfl,_,_,E',F',by rw [hE2.out];exact H5,S2.next s5 (fun x e=> .inl (.inl e)),fun x hx=>?_,Grew.trans (b:=w2) (fun x hx=>?_) (Grew.refl _ _ _) S2.size s5.size⟩
       · rcases g5 x hx with e | e
         · exact .inl e
         · exact .inr ⟨Nat.le_trans S2.size e.1,e.2⟩
       · rcases g2 x hx with e | e
         · exact .inl e
         · exact .inr ⟨Nat.le_trans B1.size e.1,e.2⟩
     · have e2:Z.room=Z.back e.1:=by unfold CZ.room;rw [if_neg hl,hv];simp only [hbE,if_false]
       have hE2:Hid (Z.room=Z.back e.1):=e2
       have hBk:=fun u (hu:Below w.heap.size w u)=>Z6u (H.later hu) ok ht e.1 hwe
       clear e2
       go_enter Tryz.func251,Tryz.ntmps251
       go_wp2
       refine wp_region_held_drew (S:=fun u=>u.cell? ⟨gc,1,none⟩=some (.int .i64 Z.n)∧u.cell? ⟨gc,3,none⟩=some (.slice (some ⟨g0,0,none⟩) Z.l.length c0)) (by kernel_rfl) (hS _ (Below.refl _ _).drew) (fun hHeld=>?_)
       refine tl 0 (.pointer (some ⟨gc,0,none⟩)) rfl ?_
       try simp only [z]
       refine tl 1 (.pointer (some ⟨gc,0,none⟩)) rfl ?_
       try simp only [z]
       refine tl 2 (.pointer (some ⟨gc,3,none⟩)) rfl ?_
       try simp only [z]
       refine tl 3 (.slice (some ⟨g0,0,none⟩) Z.l.length c0) rfl ?_ (fun u hu=>by have x1:=hu.2;go_simp)
       try simp only [z]
       refine tl 4 (.int .i64 (Z.l.length:Int)) rfl ?_
       try simp only [z]
       refine tl 5 (.pointer (some ⟨gc,0,none⟩)) rfl ?_
       try simp only [z]
       refine tl 6 (.pointer (some ⟨gc,0,none⟩)) rfl ?_
       try simp only [z]
       refine tl 7 (.pointer (some ⟨gc,1,none⟩)) rfl ?_
       try simp only [z]
       refine tl 8 (.int .i64 (Z.n:Int)) rfl ?_ (fun u hu=>by have x1:=hu.1;go_simp)
       try simp only [z]
       refine tl 9 (.bool false) rfl ?_
       try simp only [z]
       refine wpAnyH_done (by kernel_rfl) ?_ _
       clear hHeld hS
       go_wp2_with (first
        | (go_at_call 297;refine(hO _ (Below.refl _ _).drew).mono ?_;rintro e w1 ⟨rfl,b1⟩
           have B1:Below w.heap.size w w1:=Z01 (Below.refl w.heap.size w).drew b1 (Nat.le_refl _)
           have z3:=(Stp.of_below B1 (fun _=>False)).cell y3 id
           have zk:=(Stp.of_below B1 (fun _=>False)).cell ck id
           clear hO b1)
        | (go_at_call 278;refine(hBk _ B1).mono ?_;rintro e w2 ⟨rfl,F',H2,s2,g2⟩
           clear hBk))
       go_returns
       have S2:Stp (Al E F G) w w2:=(Stp.of_below B1 (Al E F G)).trans s2
       refine⟨rfl,_,f,E,F',by rw [hE2.out];exact H2,S2,Grew.refl _ _ _,fun x hx=>?_⟩
       rcases g2 x hx with e | e
       · exact .inl e
       · exact .inr ⟨Nat.le_trans B1.size e.1,e.2⟩
theorem Z72 (i:Int) (q:Pg) (l:El):fndC ((i,q)::l)=fun x=>if x=i then some q else fndC l x:=by
 funext x
 conv=>lhs;unfold fndC
 by_cases h:x=i
 · simp [h]
 · simp [h,Ne.symm h]
theorem Zip {l:El} {i:Int} {q:Pg} (hn:(keys l).Nodup) (hq:fndC l i=some q):fndC ((i,q)::rmv l i)=fndC l:=by
 rw [Z72]
 funext x
 by_cases h:x=i
 · simp [h,hq]
 · simp only [h,if_false,Z7r hn]
section
variable {w : World} {gc g mp : Nat} {sp ov : Value} {Z : CZ} {f : Int → Option Value} {E F G : Nat → Prop}
theorem Cx.few (H:Cx w gc g sp Z mp ov f E F G) {t:Nat} (ok:Z.ok t):∀ k,(f k).isSome→0≤k∧k < 2048:=fun k hk=>by
 cases hl:fndC Z.l k with
 | none=>rw [H.cm.no k hl]at hk;cases hk
 | some q=>
   have:=ok.inn _ (Z4p hl)
   unfold DS.inn at this
   have:=H.dd.d.ok.n2
   simp only at *
   omega
theorem Cx.hit {w2 w3:World} {ov1 ov2:Value} {i:Int} {q:Pg} (H:Cx w gc g sp Z mp ov f E F G) (hn:(keys Z.l).Nodup) (hq:fndC Z.l i=some q) (h':Int) (hh:h'=wrap64 (Z.h+1))
 (s2:Stp (fun x=>ov.ownBlock=some x) (w.setCell ⟨gc,4,none⟩ (.int .i64 h')) w2) (b1:ov1.ownBlock=ov.ownBlock)
 (s3:Stp (fun x=>ov1.ownBlock=some x) (w2.alloc (.cells #[.int .i64 i] 3)) w3) (o3:OwV w3 ov2 (i::(keys Z.l).erase i)) (b2:∀ r,ov2.ownBlock=some r→ov1.ownBlock=some r∨((w2.alloc (.cells #[.int .i64 i] 3)).heap.size≤r∧r < w3.heap.size)):
 ∃ E',Cx (w3.setCell ⟨gc,3,none⟩ ov2) gc g sp (Z.hit i q) mp ov2 f E' F G∧Stp E w (w3.setCell ⟨gc,3,none⟩ ov2)∧Grew E E' w (w3.setCell ⟨gc,3,none⟩ ov2):=by
 subst hh
 have h1:=H.cm.hit (wrap64 (Z.h+1))
 have s1:Stp (fun x=>x=gc) w (w.setCell ⟨gc,4,none⟩ (.int .i64 (wrap64 (Z.h+1)))):=(Stp.refl (fun x=>x=gc) w).setCell (p:=⟨gc,4,none⟩) (.inl rfl) _
 have sA:Stp (fun x=>ov.ownBlock=some x) (w.setCell ⟨gc,4,none⟩ (.int .i64 (wrap64 (Z.h+1)))) w3:=(s2.alloc _).next s3 (fun x e=> .inl (by rw [← b1];exact e))
 have h3:=h1.order sA o3 (fun r hr=>by
  rcases b2 r hr with e | e
  · exact .inl (by rw [← b1];exact e)
  · exact .inr ⟨Nat.le_trans (s2.alloc (.cells #[.int .i64 i] 3)).size e.1,e.2⟩)
 have s4:Stp (fun x=>x=gc) w3 (w3.setCell ⟨gc,3,none⟩ ov2):=(Stp.refl (fun x=>x=gc) w3).setCell (p:=⟨gc,3,none⟩) (.inl rfl) _
 have s:Stp E w (w3.setCell ⟨gc,3,none⟩ ov2):=((s1.mono (fun x e=> .inl (e▸H.cm.eg))).next sA (fun x e=> .inl (H.cm.eo x e).1)).next s4 (fun x e=> .inl (e▸H.cm.eg))
 have hg:Grew E (fun x=>E x∨ov2.ownBlock=some x) w (w3.setCell ⟨gc,3,none⟩ ov2):=fun x hx=>by
  rcases hx with hx | hx
  · exact .inl hx
  · rcases b2 x hx with e | e
    · exact .inl (H.cm.eo x (by rw [← b1];exact e)).1
    · exact .inr ⟨Nat.le_trans s1.size (Nat.le_trans (s2.alloc (.cells #[.int .i64 i] 3)).size e.1),Nat.lt_of_lt_of_le e.2 s4.size⟩
 refine⟨_,H.own s rfl rfl ?_ hg,s,hg⟩
 show Cm _ gc g mp ov2 Z.n (wrap64 (Z.h+1)) Z.m (fndC ((i,q)::rmv Z.l i)) (keys ((i,q)::rmv Z.l i)) f _
 rw [Zip hn hq,Z16,Z3x]
 exact h3
theorem Cx.miss {w6 w7 w8:World} {ov2:Value} {i:Int} {b:Blk} {r:Nat} (H:Cx w gc g sp Z mp ov f E F G) (hq:fndC Z.l i=none) (m':Int) (hm:m'=wrap64 (Z.m+1))
 (b6:Below (w.setCell ⟨gc,5,none⟩ (.int .i64 m')).heap.size (w.setCell ⟨gc,5,none⟩ (.int .i64 m')) w6) (hr:(w.setCell ⟨gc,5,none⟩ (.int .i64 m')).heap.size≤r) (c6:Cs w6 r (Pg.cs ⟨b,false,0⟩))
 (s7:Stp (fun x=>x=mp) w6 w7) (m7:MpI Tryz.prog 3 w7 mp (upd f i (some (.pointer (some ⟨r,0,none⟩)))))
 (s8:Stp (fun x=>ov.ownBlock=some x) (w7.alloc (.cells #[.int .i64 i] 3)) w8) (o8:OwV w8 ov2 (i::keys Z.l)) (b8:∀ r,ov2.ownBlock=some r→ov.ownBlock=some r∨((w7.alloc (.cells #[.int .i64 i] 3)).heap.size≤r∧r < w8.heap.size)):
 ∃ E',Cx (w8.setCell ⟨gc,3,none⟩ ov2) gc g sp (Z.miss i b) mp ov2 (upd f i (some (.pointer (some ⟨r,0,none⟩)))) E' F G∧Stp E w (w8.setCell ⟨gc,3,none⟩ ov2)∧Grew E E' w (w8.setCell ⟨gc,3,none⟩ ov2):=by
 subst hm
 have h1:=H.cm.missed (wrap64 (Z.m+1))
 have s1:Stp (fun x=>x=gc) w (w.setCell ⟨gc,5,none⟩ (.int .i64 (wrap64 (Z.m+1)))):=(Stp.refl (fun x=>x=gc) w).setCell (p:=⟨gc,5,none⟩) (.inl rfl) _
 have h6:=h1.step (Stp.of_below b6 (fun _=>False)) (fun _ _=>id)
 have hEr:¬E r:=fun e=>by have:=H.cm.lt r e;have:=s1.size;omega
 have h7:=h6.more hq c6 hEr s7 m7
 have h8:=h7.order ((Stp.of_alloc w7 (.cells #[.int .i64 i] 3) _).trans s8) o8 (fun x hx=>by
  rcases b8 x hx with e | e
  · exact .inl e
  · exact .inr ⟨Nat.le_trans (Stp.of_alloc w7 (.cells #[.int .i64 i] 3) (fun _=>False)).size e.1,e.2⟩)
 have s9:Stp (fun x=>x=gc) w8 (w8.setCell ⟨gc,3,none⟩ ov2):=(Stp.refl (fun x=>x=gc) w8).setCell (p:=⟨gc,3,none⟩) (.inl rfl) _
 have sA:Stp E w w6:=(s1.mono (fun x e=> .inl (e▸H.cm.eg))).trans (Stp.of_below b6 E)
 have sB:Stp E w w7:=sA.next s7 (fun x e=> .inl (e▸H.cm.em))
 have sC:Stp E w w8:=(sB.alloc (.cells #[.int .i64 i] 3)).next s8 (fun x e=> .inl (H.cm.eo x e).1)
 have s:Stp E w (w8.setCell ⟨gc,3,none⟩ ov2):=sC.next s9 (fun x e=> .inl (e▸H.cm.eg))
 have hg:Grew E (fun x=>(E x∨x=r)∨ov2.ownBlock=some x) w (w8.setCell ⟨gc,3,none⟩ ov2):=fun x hx=>by
  rcases hx with(hx | hx) | hx
  · exact .inl hx
  · subst hx
    have:=c6.lt
    have:=s7.size
    have:=(Stp.of_alloc w7 (.cells #[.int .i64 i] 3) (fun _=>False)).size
    have:=s8.size
    have:=s9.size
    have:=s1.size
    exact .inr ⟨by omega,by omega⟩
  · rcases b8 x hx with e | e
    · exact .inl (H.cm.eo x e).1
    · have:=(Stp.of_alloc w7 (.cells #[.int .i64 i] 3) (fun _=>False)).size
      have:=sB.size
      have:=s9.size
      exact .inr ⟨by omega,by omega⟩
 refine⟨_,H.own s rfl rfl ?_ hg,s,hg⟩
 show Cm _ gc g mp ov2 Z.n Z.h (wrap64 (Z.m+1)) (fndC ((i,_)::Z.l)) (keys ((i,_)::Z.l)) _ _
 rw [Z72,Z16]
 exact h8
end
def hp (e:Int) (v:Option Value):Value:=if e=0 then v.getD (.pointer none)else .pointer none
theorem hp0 (v:Option Value):hp 0 v=v.getD (.pointer none):=if_pos rfl
theorem hpn {e:Int} (h:e≠0) (v:Option Value):hp e v= .pointer none:=if_neg h
set_option maxRecDepth 100000 in
set_option maxHeartbeats 2000000 in
theorem Z6v {w:World} {gc g mp:Nat} {sp ov:Value} {Z:CZ} {f:Int→Option Value} {E F G:Nat→Prop} {t:Nat} (H:Cx w gc g sp Z mp ov f E F G) (ok:Z.ok t) (ht:t≤10000) (i:Int) (hwi:(Lit.int .i64 i).wf=true) (hn:fndC Z.l i=none):
 Calls Tryz.prog 186 #[.pointer (some ⟨gc,0,none⟩), .int .i64 i] w fun e w'=>∃ ov' f' E' F',e= .returned (.tuple #[hp (Z.holdE i) (f' i), .int .i64 (Z.holdE i)])∧Cx w' gc g sp (Z.hold i) mp ov' f' E' F' G∧Stp (Al E F G) w w'∧Grew E E' w w'∧Grew F F' w w':=by
 obtain⟨y0,y1,y2,y3,y4,y5⟩:=H.cm.cells
 have hR:=Z79 H.dd.d i hwi
 by_cases hi:Z.d.inn i
 · have e0:Z0l Z.d i=0:=if_pos hi
   rw [e0]at hR;clear e0
   have e1:Z.holdE i=Z.roomE:=by unfold CZ.holdE;rw [if_pos hi,hn]
   rw [e1];clear e1
   have hRm:=fun u (hu:Below w.heap.size w u)=>Z8w (H.later hu) ok ht
   have far:∀ x,w.heap.size≤x→¬Al E F G x:=fun x hx e=>by
    rcases e with e | e | e
    · have:=H.cm.lt x e;omega
    · have:=H.dd.d.lt x e;omega
    · have:=H.dd.gl x e;omega
   by_cases hE:Z.roomE=0
   · have e2:Z.hold i=Z.room.miss i (Z.d.shown i):=by unfold CZ.hold;rw [if_pos hi,hn];simp only [hE,if_true]
     have hE2:Hid (Z.hold i=Z.room.miss i (Z.d.shown i)):=e2
     have hHE:Hid (Z.roomE=0):=hE
     rw [hE]at hRm;clear e2 hE
     have hnr:fndC Z.room.l i=none:=Z1s.2 fun hk=>Z1s.1 hn (Zbj Z hk)
     have okr:=ok.room
     have hkl:(keys Z.room.l).length≤1000000:=by rw [Z10];have:=okr.len;have:=okr.n2;omega
     go_enter Tryz.func186,Tryz.ntmps186
     go_wp2_with (first
      | (go_at_call 27;refine hR.mono ?_;rintro e w1 ⟨rfl,b1⟩;clear hR)
      | (refine Z1p (by rfl) (by rfl) ?_;intro gb w2 a2 l2 r2 b2)
      | (refine Z1j (by rfl) _ _ (by rfl) gb (by rfl) (Z.d.shown i) (by rfl) _ r2 ?_;intro w3 r3 s3
         have hgb:w.heap.size≤gb:=Nat.le_trans b1.size a2
         have B3:Below w.heap.size w w3:=((Stp.of_below (Z01 b1 b2 (Nat.le_refl _)) (fun x=>w.heap.size≤x)).next s3 (fun x e=> .inl (e▸hgb))).below (Nat.le_refl _) (fun _ h=>h)
         clear r2 b2 b1 s3)
      | (go_at_call 251;refine(hRm _ B3).mono ?_;rintro e w4 ⟨rfl,ov4,f4,E4,F4,H4,s4,gE4,gF4⟩
         have z5:=H4.cm.c.cell 5 _ rfl
         have v5:=H4.cm.c.frozen 5
         have r4:Cs w4 gb (Z.d.shown i).cs:=r3.step s4 (far gb hgb)
         have hsi:gb < w4.heap.size:=r4.lt
         clear hRm r3 y0 y1 y2 y3 y4 y5)
      | (refine Z1d (by rfl) _ (by rfl) gb (by rfl) (Z.d.shown i) (Cs.step r4 ((Stp.refl (fun x=>x=gc) w4).setCell (p:=⟨gc,5,none⟩) (.inl rfl) (.int .i64 (wrap64 (Z.room.m+1)))) (fun e=>far gb hgb (.inl (e▸H.cm.eg)))).range ?_)
      | (refine Za6 (by rfl) _ (by rfl) (Z.d.shown i) (by rfl) ?_)
      | (refine Zl0 (by rfl) _ (by rfl) ⟨Z.d.shown i,false,0⟩ (by rfl) ?_;intro gp w6 a6 l6 r6 b6
         have h6:=(H4.cm.missed (wrap64 (Z.room.m+1))).step (Stp.of_below b6 (fun _=>False)) (fun _ _=>id)
         have sz:w4.heap.size≤gp:=Nat.le_trans ((Stp.refl (fun x=>x=gc) w4).setCell (p:=⟨gc,5,none⟩) (.inl rfl) (.int .i64 (wrap64 (Z.room.m+1)))).size a6
         have z6:=h6.c.cell 2 _ rfl)
      | (refine Znw (by rfl) _ _ _ (by rfl) mp f4 (by rfl) i (by rfl) (.pointer (some ⟨gp,0,none⟩)) (by rfl) h6.mm (H4.few okr) hwi ?_;intro w7 m7 s7
         have h7:=h6.more hnr r6 (fun e=>by have:=H4.cm.lt gp e;omega) s7 m7
         have z7:=h7.c.cell 3 _ rfl
         have h8:=h7.step (Stp.of_alloc w7 (.cells #[.int .i64 i] 3) (fun _=>False)) (fun _ _=>id)
         obtain⟨a9,n9,c9,hov9⟩:=h7.ow.shape
         subst hov9)
      | (go_at_call 188;refine(Z9f h8.ow i w7.heap.size (heap_alloc_new w7 _) (fun e=>by have:=h7.lt _ (h7.eo _ e).1;omega) hkl).mono ?_;rintro e w9 ⟨ov9,rfl,o9,b9,s9⟩
         have h10:=h8.c.step s9 (fun e=>(h8.eo gc e).2 rfl)
         have z9:=h10.cell 3 _ rfl
         have v9:=h10.frozen 3
         obtain⟨a10,n10,c10,hov10⟩:=o9.shape
         subst hov10))
     go_returns
     obtain⟨E',H11,s11,g11⟩:=H4.miss hnr _ rfl b6 a6 r6 s7 m7 s9 o9 b9
     have S4:Stp (Al E F G) w w4:=(Stp.of_below B3 (Al E F G)).trans s4
     have gE:Grew E E4 w w4:=fun x hx=>by
      rcases gE4 x hx with e | e
      · exact .inl e
      · exact .inr ⟨Nat.le_trans B3.size e.1,e.2⟩
     have gF:Grew F F4 w w4:=fun x hx=>by
      rcases gF4 x hx with e | e
      · exact .inl e
      · exact .inr ⟨Nat.le_trans B3.size e.1,e.2⟩
     refine⟨_,_,E',F4,?_,by rw [hE2.out];exact H11,S4.next s11 (fun x e=>?_),Grew.trans gE g11 S4.size s11.size,Grew.trans gF (Grew.refl _ _ _) S4.size s11.size⟩
     · rw [hHE.out,hp0];simp [upd]
     · rcases gE x e with e | e
       · exact .inl (.inl e)
       · exact .inr e.1
   · have e2:Z.hold i=Z.room:=by unfold CZ.hold;rw [if_pos hi,hn];simp only [hE,if_false]
     have hE2:Hid (Z.hold i=Z.room):=e2
     clear e2
     go_enter Tryz.func186,Tryz.ntmps186
     go_wp2_with (first
      | (go_at_call 27;refine hR.mono ?_;rintro e w1 ⟨rfl,b1⟩;clear hR)
      | (refine Z1p (by rfl) (by rfl) ?_;intro gb w2 a2 l2 r2 b2)
      | (refine Z1j (by rfl) _ _ (by rfl) gb (by rfl) (Z.d.shown i) (by rfl) _ r2 ?_;intro w3 r3 s3
         have hgb:w.heap.size≤gb:=Nat.le_trans b1.size a2
         have B3:Below w.heap.size w w3:=((Stp.of_below (Z01 b1 b2 (Nat.le_refl _)) (fun x=>w.heap.size≤x)).next s3 (fun x e=> .inl (e▸hgb))).below (Nat.le_refl _) (fun _ h=>h)
         clear r2 b2 b1 s3)
      | (go_at_call 251;refine(hRm _ B3).mono ?_;rintro e w4 ⟨rfl,ov4,f4,E4,F4,H4,s4,gE4,gF4⟩))
     go_returns
     refine⟨ov4,f4,E4,F4,by rw [hpn hE];rfl,by rw [hE2.out];exact H4,(Stp.of_below B3 (Al E F G)).trans s4,fun x hx=>?_,fun x hx=>?_⟩
     · rcases gE4 x hx with e | e
       · exact .inl e
       · exact .inr ⟨Nat.le_trans B3.size e.1,e.2⟩
     · rcases gF4 x hx with e | e
       · exact .inl e
       · exact .inr ⟨Nat.le_trans B3.size e.1,e.2⟩
 · have e0:Z0l Z.d i=2:=if_neg hi
   rw [e0]at hR;clear e0
   have e1:Z.holdE i=2:=by unfold CZ.holdE;rw [if_neg hi]
   have e2:Z.hold i=Z:=by unfold CZ.hold;rw [if_neg hi]
   rw [e1,e2];clear e1 e2
   go_enter Tryz.func186,Tryz.ntmps186
   go_wp2_with (first
    | (go_at_call 27;refine hR.mono ?_;rintro e w1 ⟨rfl,b1⟩;clear hR)
    | (refine Z1p (by rfl) (by rfl) ?_;intro gb w2 a2 l2 r2 b2)
    | (refine Z1j (by rfl) _ _ (by rfl) gb (by rfl) (Z.d.shown i) (by rfl) _ r2 ?_;intro w3 r3 s3
       have hgb:w.heap.size≤gb:=Nat.le_trans b1.size a2
       have B3:Below w.heap.size w w3:=((Stp.of_below (Z01 b1 b2 (Nat.le_refl _)) (fun x=>w.heap.size≤x)).next s3 (fun x e=> .inl (e▸hgb))).below (Nat.le_refl _) (fun _ h=>h)
       clear r2 b2 b1 s3))
   go_returns
   exact⟨ov,f,E,F,by rw [hpn (by decide)];rfl,H.later B3,Stp.of_below B3 _,Grew.refl _ _ _,Grew.refl _ _ _⟩
def To (gc g mp:Nat) (sp:Value) (E F G:Nat→Prop) (Z':CZ) (w w':World):Prop:=∃ ov' f' E' F',Cx w' gc g sp Z' mp ov' f' E' F' G∧Stp (Al E F G) w w'∧Grew E E' w w'∧Grew F F' w w'
section
variable {w w1 w' : World} {gc g mp : Nat} {sp ov : Value} {Z Z' : CZ} {f : Int → Option Value} {E F G : Nat → Prop}
theorem Grew.pre {F F':Nat→Prop} (h:Grew F F' w1 w') (b:w.heap.size≤w1.heap.size):Grew F F' w w':=fun x hx=>by
 rcases h x hx with e | e
 · exact .inl e
 · exact .inr ⟨Nat.le_trans b e.1,e.2⟩
theorem Cx.far (H:Cx w gc g sp Z mp ov f E F G) (x:Nat) (hx:w.heap.size≤x):¬Al E F G x:=fun e=>by
 rcases e with e | e | e
 · have:=H.cm.lt x e;omega
 · have:=H.dd.d.lt x e;omega
 · have:=H.dd.gl x e;omega
end
theorem Zqs {l r:El} {i:Int} {q:Pg} (hl:l=(i,q)::r) (hn:(keys l).Nodup) (u:Pg→Pg):hdU u l=stP l i (u q):=by
 subst hl
 rw [Z16,List.nodup_cons]at hn
 unfold hdU stP
 rw [List.map_cons]
 simp only [if_true]
 congr 1
 have:∀ e ∈ r,(if e.1=i then(i,u q)else e)=e:=fun e he=>if_neg (fun e1=>hn.1 (by rw [← e1];exact List.mem_map_of_mem (f:=(·.1)) he))
 rw [List.map_congr_left this];simp
theorem Z3v {l r:El} {i:Int} {q:Pg} (hl:l=(i,q)::r):fndC l i=some q:=by
 subst hl;unfold fndC;simp
set_option maxRecDepth 100000 in
set_option maxHeartbeats 2000000 in
theorem Z4r {w:World} {gc g mp:Nat} {sp ov:Value} {Z:CZ} {f:Int→Option Value} {E F G:Nat→Prop} {t:Nat} (H:Cx w gc g sp Z mp ov f E F G) (ok:Z.ok t) (ht:t≤10000) (i:Int) (hwi:(Lit.int .i64 i).wf=true):
 Calls Tryz.prog 134 #[.pointer (some ⟨gc,0,none⟩), .int .i64 i] w fun e w'=>∃ ov' f' E' F',e= .returned (.tuple #[hp (Z.holdE i) (f' i), .int .i64 (Z.holdE i)])∧Cx w' gc g sp (Z.hold i) mp ov' f' E' F' G∧Stp (Al E F G) w w'∧Grew E E' w w'∧Grew F F' w w':=by
 have hfi:=Z53 H.cm i hwi
 cases hq:fndC Z.l i with
 | none=>
   have e3:pgE (fndC Z.l) i=5:=by unfold pgE;rw [hq]
   rw [e3,H.cm.no i hq]at hfi;clear e3
   have hB:=Z6v H ok ht i hwi hq
   go_enter Tryz.func134,Tryz.ntmps134
   go_wp2_with (first
    | (go_at_call 185;refine hfi.mono ?_;rintro e w1 ⟨rfl,rfl⟩)
    | (go_at_call 186;refine hB.mono ?_;rintro e w1 ⟨ov1,f1,E1,F1,rfl,H1,s1,g1,g2⟩))
   go_returns
   exact⟨ov1,f1,E1,F1,rfl,H1,s1,g1,g2⟩
 | some q=>
   obtain⟨r,hf,hE,hc⟩:=H.page hq
   have hi:Z.d.inn i:=ok.inn _ (Z4p hq)
   have hki:i ∈ keys Z.l:=Z5v (Z4p hq)
   have e3:pgE (fndC Z.l) i=0:=by unfold pgE;rw [hq]
   rw [e3,hf]at hfi;clear e3
   have e1:Z.holdE i=0:=by unfold CZ.holdE;rw [if_pos hi,hq]
   have e2:Z.hold i=Z.hit i q:=by unfold CZ.hold;rw [if_pos hi,hq]
   rw [e1,e2];clear e1 e2
   obtain⟨y0,y1,y2,y3,y4,y5⟩:=H.cm.cells
   have v4:=H.cm.c.frozen 4
   have h1:=H.cm.hit (wrap64 (Z.h+1))
   have z3:=h1.c.cell 3 _ rfl
   have hkl:(keys Z.l).length≤64:=by rw [Z10];have:=ok.len;have:=ok.n2;omega
   obtain⟨a0,n0,c0,hov⟩:=H.cm.ow.shape
   subst hov
   go_enter Tryz.func134,Tryz.ntmps134
   go_wp2_with (first
    | (go_at_call 185;refine hfi.mono ?_;rintro e w1 ⟨rfl,rfl⟩)
    | (go_at_call 187;refine(Ziz h1.ow i (by omega) hki).mono ?_;rintro e w1 ⟨⟨k,hk,rfl,her⟩,rfl⟩
       have a3:IntKind.i64.wrap ((k:Int)+1)=(k:Int)+1:=by rw [IntKind.wrap_i64];omega)
    | (go_at_call 189;refine(Z69 h1.ow k hk).mono ?_;rintro e w2 ⟨ov1,rfl,o2,b2,s2⟩
       rw [her]at o2
       have o2':=o2.later ((Below.refl _ w2).alloc (Nat.le_refl _) (.cells #[.int .i64 i] 3)))
    | (go_at_call 188;refine(Z9f o2' i w2.heap.size (heap_alloc_new w2 _) (fun e=>by have:=o2.lt e;omega) (by have:=List.length_erase_le (a:=i) (l:=keys Z.l);omega)).mono ?_;rintro e w3 ⟨ov2,rfl,o3,b3,s3⟩
       have c3:=((h1.c.step s2 (fun e=>(h1.eo gc e).2 rfl)).later ((Below.refl _ w2).alloc (Nat.le_refl _) (.cells #[.int .i64 i] 3))).step s3 (fun e=>(h1.eo gc (by rw [← b2];exact e)).2 rfl)
       have q3:=c3.cell 3 _ rfl
       have f3:=c3.frozen 3
       obtain⟨a10,n10,c10,hov10⟩:=o3.shape
       subst hov10))
   go_returns
   obtain⟨E',H5,s5,g5⟩:=H.hit ok.nd hq _ rfl s2 b2 s3 o3 b3
   exact⟨_,f,E',F,by rw [hp0,hf];rfl,H5,Al.left s5,g5,Grew.refl _ _ _⟩
section
variable {w w' : World} {gc g mp : Nat} {sp ov : Value} {Z : CZ} {f f1 : Int → Option Value} {E F G E1 F1 : Nat → Prop}
theorem Cx.hd {w2:World} {ov1:Value} {i:Int} {q:Pg} {r:Nat} {rs:El} {u:Pg→Pg} (H:Cx w gc g sp Z mp ov1 f1 E1 F1 G) (hn:(keys Z.l).Nodup) (hl:Z.l=(i,q)::rs) (hr:f1 i=some (.pointer (some ⟨r,0,none⟩))) (k:Stp (fun x=>x=r) w w2) (hc:Cs w2 r (u q).cs):
 Cx w2 gc g sp (Z.onHd u) mp ov1 f1 E1 F1 G:=by
 have:=H.put (q':=u q) (Z3v hl) hr k hc
 have e:Z.onHd u=Z.setP i (u q):=by unfold CZ.onHd CZ.setP;rw [Zqs hl hn]
 rw [e];exact this
end
set_option maxRecDepth 100000 in
set_option maxHeartbeats 2000000 in
theorem Z8i {w:World} {gc g mp:Nat} {sp ov:Value} {Z:CZ} {f:Int→Option Value} {E F G:Nat→Prop} {t:Nat} (H:Cx w gc g sp Z mp ov f E F G) (ok:Z.ok t) (ht:t≤10000) (i:Int) (hwi:(Lit.int .i64 i).wf=true):
 Calls Tryz.prog 76 #[.pointer (some ⟨gc,0,none⟩), .int .i64 i] w fun e w'=>e= .returned (.tuple #[.agg (Z.got i).cs.toArray, .int .i64 (Z.holdE i)])∧To gc g mp sp E F G (Z.hold i) w w':=by
 have hH:=fun u (hu:Below w.heap.size w u)=>Z4r (H.later hu) ok ht i hwi
 by_cases he:Z.holdE i=0
 · obtain⟨q,rs,hl⟩:=Z56 he
   have e1:Z.got i=q.b:=by unfold CZ.got;rw [if_pos he,Z3v hl]
   have hHE:Hid (Z.got i=q.b∧Z.holdE i=0):=⟨e1,he⟩
   rw [he]at hH;clear e1 he
   go_enter Tryz.func76,Tryz.ntmps76
   go_wp2_with (first
    | (refine Z1p (by rfl) (by rfl) ?_;intro gb w1 a1 l1 r1 b1)
    | (go_at_call 134;refine(hH _ b1).mono ?_;rintro e w2 ⟨ov2,f2,E2,F2,rfl,H2,s2,gE,gF⟩
       obtain⟨r,hr,hE2,hc⟩:=H2.page (Z3v hl)
       rw [hp0,hr]
       have r2:Cs w2 gb Blk.zero.cs:=r1.step s2 (H.far gb a1)
       clear hH)
    | (refine Z1d (by rfl) _ (by rfl) r (by rfl) q.b (Pg.b_range hc) ?_)
    | (refine Z1j (by rfl) _ _ (by rfl) gb (by rfl) q.b (by rfl) _ r2 ?_;intro w3 r3 s3))
   have hgb:¬E2 gb∧¬F2 gb∧¬G gb:=by
    refine⟨fun e=>?_,fun e=>?_,fun e=>?_⟩
    · rcases gE gb e with e | e
      · exact H.far gb a1 (.inl e)
      · omega
    · rcases gF gb e with e | e
      · exact H.far gb a1 (.inr (.inl e))
      · omega
    · exact H.far gb a1 (.inr (.inr e))
   have H3:=H2.step s3 (fun x hx e=>hgb.1 (e▸hx)) (fun x hx e=>hgb.2.1 (e▸hx)) (fun x hx e=>hgb.2.2 (e▸hx))
   have S2:Stp (Al E F G) w w2:=(Stp.of_below b1 (Al E F G)).trans s2
   refine bodyPost_ret (Zc4 Tryz.results76 rfl rfl r3) rfl ⟨by obtain⟨q1,q2⟩:=hHE.out;rw [q1,q2];rfl,ov2,f2,E2,F2,H3,S2.next s3 (fun x e=> .inr (by rw [e];exact a1)),Grew.trans (b:=w2) (gE.pre b1.size) (Grew.refl _ _ _) S2.size s3.size,Grew.trans (b:=w2) (gF.pre b1.size) (Grew.refl _ _ _) S2.size s3.size⟩
 · have e1:Z.got i=Blk.zero:=by unfold CZ.got;rw [if_neg he]
   have hHE:Hid (Z.got i=Blk.zero):=e1
   clear e1
   go_enter Tryz.func76,Tryz.ntmps76
   go_wp2_with (first
    | (refine Z1p (by rfl) (by rfl) ?_;intro gb w1 a1 l1 r1 b1)
    | (go_at_call 134;refine(hH _ b1).mono ?_;rintro e w2 ⟨ov2,f2,E2,F2,rfl,H2,s2,gE,gF⟩
       have r2:Cs w2 gb Blk.zero.cs:=r1.step s2 (H.far gb a1)
       clear hH)
    | (refine Z3q (by rfl) (by rfl) ?_)
    | (refine Z1j (by rfl) _ _ (by rfl) gb (by rfl) Blk.zero (by rfl) _ r2 ?_;intro w3 r3 s3))
   have hgb:¬E2 gb∧¬F2 gb∧¬G gb:=by
    refine⟨fun e=>?_,fun e=>?_,fun e=>?_⟩
    · rcases gE gb e with e | e
      · exact H.far gb a1 (.inl e)
      · omega
    · rcases gF gb e with e | e
      · exact H.far gb a1 (.inr (.inl e))
      · omega
    · exact H.far gb a1 (.inr (.inr e))
   have H3:=H2.step s3 (fun x hx e=>hgb.1 (e▸hx)) (fun x hx e=>hgb.2.1 (e▸hx)) (fun x hx e=>hgb.2.2 (e▸hx))
   have S2:Stp (Al E F G) w w2:=(Stp.of_below b1 (Al E F G)).trans s2
   refine bodyPost_ret (Zc4 Tryz.results76 rfl rfl r3) rfl ⟨by rw [hHE.out];rfl,ov2,f2,E2,F2,H3,S2.next s3 (fun x e=> .inr (by rw [e];exact a1)),Grew.trans (b:=w2) (gE.pre b1.size) (Grew.refl _ _ _) S2.size s3.size,Grew.trans (b:=w2) (gF.pre b1.size) (Grew.refl _ _ _) S2.size s3.size⟩
set_option maxRecDepth 100000 in
set_option maxHeartbeats 2000000 in
theorem Z1e {w:World} {gc g mp:Nat} {sp ov:Value} {Z:CZ} {f:Int→Option Value} {E F G:Nat→Prop} {t:Nat} (H:Cx w gc g sp Z mp ov f E F G) (ok:Z.ok t) (ht:t≤10000) (i:Int) (hwi:(Lit.int .i64 i).wf=true) (b:Blk):
 Calls Tryz.prog 277 #[.pointer (some ⟨gc,0,none⟩), .int .i64 i, .agg b.cs.toArray] w fun e w'=>e= .returned (.int .i64 (Z.holdE i))∧To gc g mp sp E F G (Z.put i b) w w':=by
 have hH:=fun u (hu:Below w.heap.size w u)=>Z4r (H.later hu) ok ht i hwi
 by_cases he:Z.holdE i=0
 · obtain⟨q,rs,hl⟩:=Z56 he
   have e1:Z.put i b=(Z.hold i).onHd (fun q=>⟨b,true,q.pn⟩):=by unfold CZ.put;rw [if_pos he]
   have hHE:Hid (Z.put i b=(Z.hold i).onHd (fun q=>⟨b,true,q.pn⟩)∧Z.holdE i=0):=⟨e1,he⟩
   rw [he]at hH;clear e1 he
   have okh:=ok.hold i
   go_enter Tryz.func277,Tryz.ntmps277
   go_wp2_with (first
    | (refine Z7m (by rfl) _ (by rfl) b (by rfl) ?_;intro gb w1 a1 l1 r1 b1)
    | (go_at_call 134;refine(hH _ b1).mono ?_;rintro e w2 ⟨ov2,f2,E2,F2,rfl,H2,s2,gE,gF⟩
       obtain⟨r,hr,hE2,hc⟩:=H2.page (Z3v hl)
       rw [hp0,hr]
       have r2:Cs w2 gb b.cs:=r1.step s2 (H.far gb a1)
       clear hH)
    | (refine Z1d (by rfl) _ (by rfl) gb (by rfl) b r2.range ?_)
    | (refine Zcb (by rfl) _ _ (by rfl) r (by rfl) b (by rfl) q hc ?_;intro w3 r3 s3
       have x3:=Pg.ch_cell r3
       have v3:=r3.frozen 64))
   go_returns
   have s4:Stp (fun x=>x=r) w3 (w3.setCell ⟨r,64,none⟩ (.bool true)):=(Stp.refl (fun x=>x=r) w3).setCell (p:=⟨r,64,none⟩) (.inl rfl) _
   have s5:=s3.trans s4
   have H3:=H2.hd (u:=fun q=>⟨b,true,q.pn⟩) okh.nd hl hr s5 (Pg.set_ch r3 true)
   have S2:Stp (Al E F G) w w2:=(Stp.of_below b1 (Al E F G)).trans s2
   refine⟨by obtain⟨q1,q2⟩:=hHE.out;rw [q2];rfl,ov2,f2,E2,F2,by rw [hHE.out.1];exact H3,S2.next s5 (fun x e=>?_),Grew.trans (b:=w2) (gE.pre b1.size) (Grew.refl _ _ _) S2.size s5.size,Grew.trans (b:=w2) (gF.pre b1.size) (Grew.refl _ _ _) S2.size s5.size⟩
   subst e
   rcases gE _ hE2 with e | e
   · exact .inl (.inl e)
   · exact .inr (Nat.le_trans b1.size e.1)
 · have e1:Z.put i b=Z.hold i:=by unfold CZ.put;rw [if_neg he]
   have hHE:Hid (Z.put i b=Z.hold i):=e1
   clear e1
   go_enter Tryz.func277,Tryz.ntmps277
   go_wp2_with (first
    | (refine Z7m (by rfl) _ (by rfl) b (by rfl) ?_;intro gb w1 a1 l1 r1 b1)
    | (go_at_call 134;refine(hH _ b1).mono ?_;rintro e w2 ⟨ov2,f2,E2,F2,rfl,H2,s2,gE,gF⟩))
   go_returns
   exact⟨rfl,ov2,f2,E2,F2,by rw [hHE.out];exact H2,(Stp.of_below b1 (Al E F G)).trans s2,gE.pre b1.size,gF.pre b1.size⟩
set_option maxRecDepth 100000 in
set_option maxHeartbeats 2000000 in
theorem Zge {w:World} {gc g mp:Nat} {sp ov:Value} {Z:CZ} {f:Int→Option Value} {E F G:Nat→Prop} {t:Nat} (H:Cx w gc g sp Z mp ov f E F G) (ok:Z.ok t) (ht:t≤10000) (i:Int) (hwi:(Lit.int .i64 i).wf=true) (b:Blk):
 Calls Tryz.prog 276 #[.pointer (some ⟨gc,0,none⟩), .int .i64 i, .agg b.cs.toArray] w fun e w'=>e= .returned (.int .i64 (Z.forceE i))∧To gc g mp sp E F G (Z.force i b) w w':=by
 have hH:=fun u (hu:Below w.heap.size w u)=>Z4r (H.later hu) ok ht i hwi
 by_cases he:Z.holdE i=0
 · obtain⟨q,rs,hl⟩:=Z56 he
   have okh:=ok.hold i
   have e1:Z.force i b=(Z.hold i).frc i b:=by unfold CZ.force;rw [if_pos he]
   have e2:Z.forceE i=Z0b (Z.hold i).d (Z.hold i).p i:=by unfold CZ.forceE;rw [if_pos he]
   rw [he]at hH;rw [e1,e2];clear e1 e2 he
   generalize Z.hold i=Y at *
   go_enter Tryz.func276,Tryz.ntmps276
   go_wp2_with (first
    | (refine Z7m (by rfl) _ (by rfl) b (by rfl) ?_;intro gb w1 a1 l1 r1 b1)
    | (go_at_call 134;refine(hH _ b1).mono ?_;rintro e w2 ⟨ov2,f2,E2,F2,rfl,H2,s2,gE,gF⟩
       obtain⟨r,hr,hE2,hc⟩:=H2.page (Z3v hl)
       rw [hp0,hr]
       have r2:Cs w2 gb b.cs:=r1.step s2 (H.far gb a1)
       clear hH))
   have hgF:¬F2 gb∧¬G gb:=by
    refine⟨fun e=>?_,fun e=>?_⟩
    · rcases gF gb e with e | e
      · exact H.far gb a1 (.inr (.inl e))
      · omega
    · exact H.far gb a1 (.inr (.inr e))
   obtain⟨y0,_⟩:=H2.cm.cells
   have hS:∀ u,Stp (fun x=>F2 x∨G x) w2 u→(u.cell? ⟨gc,0,none⟩=some (.pointer (some ⟨g,0,none⟩))∧u.rangeAt gb 0 b.cs):=fun u hu=>
    ⟨hu.cell y0 (fun e=>by rcases e with e | e;exact H2.ef gc H2.cm.eg e;exact H2.eg gc H2.cm.eg e),hu.range r2.range (fun e=>by rcases e with e | e;exact hgF.1 e;exact hgF.2 e)⟩
   have hW:=fun u (hu:Below w2.heap.size w2 u)=>Z73 (H2.later hu).dd (okh.oOk (by omega)) i b
   refine wp_region_held_drew (S:=fun u=>u.cell? ⟨gc,0,none⟩=some (.pointer (some ⟨g,0,none⟩))∧u.rangeAt gb 0 b.cs) (by kernel_rfl) (hS _ (Stp.refl _ w2).drew) (fun hHeld=>?_)
   refine tl 0 (.pointer (some ⟨gc,0,none⟩)) rfl ?_
   try simp only [z]
   refine tl 1 (.pointer (some ⟨gc,0,none⟩)) rfl ?_
   try simp only [z]
   refine tl 2 (.pointer (some ⟨gc,0,none⟩)) rfl ?_
   try simp only [z]
   refine tl 3 (.pointer (some ⟨g,0,none⟩)) rfl ?_ (fun u hu=>by have x1:=hu.1;go_simp)
   try simp only [z]
   refine tl 4 (.int .i64 i) rfl ?_
   try simp only [z]
   refine tm 5 (.agg b.cs.toArray) rfl
    (Z98 (by rfl) _ (by rfl) gb 0 (by rfl) b (fun u hu=>hu.2)) ?_
   try simp only [z]
   refine rd 6 rfl (fun K hK=>?_)
   go_simp
   refine(hW _ (Below.refl _ _).drew).mono ?_
   rintro e w3 ⟨rfl,hD,hk⟩
   try go_wp2_with fail
   have hk2:Stp (fun x=>F2 x∨G x) w2 w3:=((Stp.refl _ w2).drew).trans hk
   refine hK.out _ _ (hS _ hk2) (fun hHeld=>?_)
   clear hK K
   try simp only [z]
   refine tl 7 (.int .i64 (Z0b Y.d Y.p i)) rfl ?_
   try simp only [z]
   refine wpAnyH_done (by kernel_rfl) ?_ _
   clear hHeld hS hW
   have H3:=H2.disk hk2 hD (Grew.refl _ _ _)
   have S2:Stp (Al E F G) w w2:=(Stp.of_below b1 (Al E F G)).trans s2
   have S3:Stp (Al E F G) w w3:=S2.next hk2 (fun x e=>by
    rcases e with e | e
    · rcases gF x e with e | e
      · exact .inl (.inr (.inl e))
      · exact .inr (Nat.le_trans b1.size e.1)
    · exact .inl (.inr (.inr e)))
   have gE3:Grew E E2 w w3:=Grew.trans (b:=w2) (gE.pre b1.size) (Grew.refl _ _ _) S2.size hk2.size
   have gF3:Grew F F2 w w3:=Grew.trans (b:=w2) (gF.pre b1.size) (Grew.refl _ _ _) S2.size hk2.size
   have hc3:Cs w3 r q.cs:=hc.step hk2 (fun e=>by rcases e with e | e;exact H2.ef r hE2 e;exact H2.eg r hE2 e)
   have r3:Cs w3 gb b.cs:=r2.step hk2 (fun e=>by rcases e with e | e;exact hgF.1 e;exact hgF.2 e)
   clear r2 hc hk hk2 s2 r1 b1 gE gF y0
   by_cases hu:Z0b Y.d Y.p i=0
   · have e5:Y.frc i b=CZ.onHd { Y with d:=Y.d.force Y.p i b,p:=useP Y.d Y.p i} (fun q=>⟨b,false,q.pn⟩):=by
      unfold CZ.frc CZ.onHd;rw [if_pos hu]
     have hE5:Hid (Y.frc i b=CZ.onHd { Y with d:=Y.d.force Y.p i b,p:=useP Y.d Y.p i} (fun q=>⟨b,false,q.pn⟩)∧Z0b Y.d Y.p i=0):=⟨e5,hu⟩
     rw [hu];clear e5 hu
     go_wp2_with (first
      | (refine Z1d (by rfl) _ (by rfl) gb (by rfl) b r3.range ?_)
      | (refine Zcb (by rfl) _ _ (by rfl) r (by rfl) b (by rfl) q hc3 ?_;intro w4 r4 s4
         have x3:=Pg.ch_cell r4
         have v3:=r4.frozen 64))
     go_returns
     have s5:Stp (fun x=>x=r) w4 (w4.setCell ⟨r,64,none⟩ (.bool false)):=(Stp.refl (fun x=>x=r) w4).setCell (p:=⟨r,64,none⟩) (.inl rfl) _
     have s6:=s4.trans s5
     have H4:=H3.hd (u:=fun q=>⟨b,false,q.pn⟩) okh.nd hl hr s6 (Pg.set_ch r4 false)
     refine⟨by rw [hE5.out.2];rfl,ov2,f2,E2,F2,by rw [hE5.out.1];exact H4,S3.next s6 (fun x e=>?_),Grew.trans (b:=w3) gE3 (Grew.refl _ _ _) S3.size s6.size,Grew.trans (b:=w3) gF3 (Grew.refl _ _ _) S3.size s6.size⟩
     subst e
     rcases gE3 _ hE2 with e | e
     · exact .inl (.inl e)
     · exact .inr e.1
   · have e5:Y.frc i b= { Y with d:=Y.d.force Y.p i b,p:=useP Y.d Y.p i} :=by
      unfold CZ.frc;rw [if_neg hu]
     have hE5:Hid (Y.frc i b= { Y with d:=Y.d.force Y.p i b,p:=useP Y.d Y.p i}):=e5
     clear e5
     go_wp2
     go_returns
     exact⟨rfl,ov2,f2,E2,F2,by rw [hE5.out];exact H3,S3,gE3,gF3⟩
 · have e1:Z.force i b=Z.hold i:=by unfold CZ.force;rw [if_neg he]
   have e2:Z.forceE i=Z.holdE i:=by unfold CZ.forceE;rw [if_neg he]
   rw [e1,e2];clear e1 e2
   go_enter Tryz.func276,Tryz.ntmps276
   go_wp2_with (first
    | (refine Z7m (by rfl) _ (by rfl) b (by rfl) ?_;intro gb w1 a1 l1 r1 b1)
    | (go_at_call 134;refine(hH _ b1).mono ?_;rintro e w2 ⟨ov2,f2,E2,F2,rfl,H2,s2,gE,gF⟩))
   go_returns
   exact⟨rfl,ov2,f2,E2,F2,H2,(Stp.of_below b1 (Al E F G)).trans s2,gE.pre b1.size,gF.pre b1.size⟩
theorem Z8c {w:World} (v:Value) (n:Int) (h:v= .pointer none∨((∃ g,v= .pointer (some ⟨g,0,none⟩))∧(n < 1∨64 < n))):
 Calls Tryz.prog 46 #[v, .int .i64 n] w fun e w'=>e= .returned (.tuple #[.pointer none, .int .i64 2])∧w=w':=by
 rcases h with rfl | ⟨⟨g,rfl⟩,h⟩
 · go_enter Tryz.func46,Tryz.ntmps46
   go_wp2
   go_returns
   exact⟨rfl,rfl⟩
 · by_cases h1:n < 1
   · clear h
     go_enter Tryz.func46,Tryz.ntmps46
     go_wp2
     go_returns
     exact⟨rfl,rfl⟩
   · have h2:64 < n:=by omega
     clear h
     go_enter Tryz.func46,Tryz.ntmps46
     go_wp2
     go_returns
     exact⟨rfl,rfl⟩
def CZ.new (d:DS) (p:Option PS) (n:Nat):CZ:=⟨d,p,n, [],0,0⟩
theorem CZ.new_ok {d:DS} {p:Option PS} {n t:Nat} (h1:1≤n) (h2:n≤64) (hw:∀ i,(d.wt i).length≤t) (hp:∀ s,p=some s→okAt s t):(CZ.new d p n).ok t:=
 ⟨h1,h2,List.nodup_nil,(fun e he=>by cases he),Nat.zero_le _,(fun e he=>by cases he),hw,hp⟩
theorem Z70 {w:World} {g:Nat} {sp:Value} {d:DS} {p:Option PS} {F G:Nat→Prop} (hd:DD w g sp d p F G) (n:Nat) (h1:1≤n) (h2:n≤64):
 Calls Tryz.prog 46 #[.pointer (some ⟨g,0,none⟩), .int .i64 (n:Int)] w fun e w'=>∃ gc mp E,e= .returned (.tuple #[.pointer (some ⟨gc,0,none⟩), .int .i64 0])∧Cx w' gc g sp (CZ.new d p n) mp (.slice none 0 0) (fun _=>none) E F G∧Below w.heap.size w w'∧(∀ x,E x→w.heap.size≤x):=by
 have a1:(1:Int)≤(n:Int):=by omega
 have a2:(n:Int)≤64:=by omega
 go_enter Tryz.func46,Tryz.ntmps46
 go_wp2_with (refine Z65 _ (by rfl) (by rfl) ?_;intro mp w1 l1 m1 b1)
 go_returns
 have b2:Below w1.heap.size w1 (w1.alloc (.cells #[.pointer (some ⟨g,0,none⟩), .int .i64 (n:Int), .map (some mp), .slice none 0 0, .int .i64 0, .int .i64 0] 183)):=(Below.refl _ w1).alloc (Nat.le_refl _) _
 have B2:=Z01 b1 b2 (Nat.le_refl _)
 have hm1:=m1.lt
 refine⟨w1.heap.size,mp,(fun x=>x=w1.heap.size∨x=mp),rfl,⟨hd.step (Stp.of_below B2 (fun _=>False)) (fun _ _=>id) (fun _ _=>id),⟨?_,OwV.nil _,m1.step (Stp.of_below b2 (fun _=>False)) id,(fun k q hq=>by cases hq),fun _ _=>rfl,(fun a b s e _=>by cases e), .inl rfl, .inr rfl,(fun r hr=>by cases hr),fun x hx=>?_⟩,fun x hx e=>?_,fun x hx e=>?_⟩,B2,fun x hx=>?_⟩
 · exact Cs.made w1 [.pointer (some ⟨g,0,none⟩), .int .i64 (n:Int), .map (some mp), .slice none 0 0, .int .i64 0, .int .i64 0] 183 (by intro v hv;simp at hv;rcases hv with rfl | rfl | rfl | rfl | rfl<;>rfl)
 · rcases hx with rfl | rfl
   · simp
   · have:=b2.size;omega
 · have:=hd.d.lt x e
   have:=b1.size
   rcases hx with rfl | rfl<;>omega
 · have:=hd.gl x e
   have:=b1.size
   rcases hx with rfl | rfl<;>omega
 · have:=b1.size
   rcases hx with rfl | rfl<;>omega
end Go.Proofs.YtogdffonjhghcaaGreatDoor
