/-
  Texts of my own, joined: no statement is proved here.
-/
import Derived.Test.YtogdffonjhghcaaGreatDoorJbp
set_option linter.unusedSimpArgs false
set_option linter.unusedVariables false
namespace Go.Proofs.YtogdffonjhghcaaGreatDoor
open Go.ChangeShapes Go.WideShapes Go.ChangeAt Go.RowKit
set_option maxRecDepth 100000
theorem Zix:∀ (l:El) (k:Nat),(keys l).Nodup→k < l.length→idx l (l.getD k e0).1=k
 | [],k,_,h=>by simp at h
 | a::t,0,_,_=>by unfold idx;exact if_pos rfl
 | a::t,k+1,hn,h=>by
   rw [Z16,List.nodup_cons]at hn
   have hk:k < t.length:=by simpa using h
   have hm:=Z8h hk
   unfold idx
   rw [List.getD_cons_succ,if_neg (fun e=>hn.1 (by rw [e];exact List.mem_map_of_mem (f:=(·.1)) hm)),Zix t k hn.2 hk]
theorem Zmb {l:El} {k:Nat} (hn:(keys l).Nodup) (hk:k < l.length):l.take k++l.drop (k+1)=rmv l (l.getD k e0).1:=by
 have hf:fndC l (l.getD k e0).1=some (l.getD k e0).2:=Z6b hn (Z8h hk)
 have:=(Z8j hf).2.2
 rwa [Zix l k hn hk]at this
theorem Rx.gone {w w':World} {yc y q:Nat} {Z:CZ} {s:PS} {lv lv':Value} {E R:Nat→Prop} {i:Int} (H:Rx w yc y q Z s lv E R) (b:Below w.heap.size w w') (ho:OwL w' lv' (rmv Z.l i)) (hN:New w.heap.size lv'):
 ∃ E',Rx (w'.setCell ⟨yc,2,none⟩ lv') yc y q (Z.less i) s lv' E' R∧Stp E w (w'.setCell ⟨yc,2,none⟩ lv')∧Grew E E' w (w'.setCell ⟨yc,2,none⟩ lv'):=
 H.list (Z':=Z.less i) (Stp.of_below b _) rfl rfl rfl rfl rfl ho (fun r hr=> .inr ⟨hN r hr,ho.lt hr⟩)
theorem RTo.mk' {w w1 w':World} {yc y q:Nat} {Z':CZ} {E R E1 R1:Nat→Prop} (s:Stp (Rl q E R) w w1) (h:RTo yc y q E1 R1 Z' w1 w') (g1:Grew E E1 w w1) (g2:Grew R R1 w w1):RTo yc y q E R Z' w w':=by
 obtain⟨s',lv',E',R',h1,h2,h3,h4⟩:=h
 refine⟨s',lv',E',R',h1,s.next h2 (fun x e=>?_),Grew.trans g1 h3 s.size h2.size,Grew.trans g2 h4 s.size h2.size⟩
 rcases e with e | e | e
 · rcases g1 x e with e | e
   · exact .inl (.inl e)
   · exact .inr e.1
 · rcases g2 x e with e | e
   · exact .inl (.inr (.inl e))
   · exact .inr e.1
 · exact .inl (.inr (.inr e))
theorem Z5x {B g n c:Nat} (h:B≤g):New B (.slice (some ⟨g,0,none⟩) n c):=fun r hr=>by
 have:g=r:=by simpa [Value.ownBlock]using hr
 omega
theorem Z9k {B g n c x:Nat} (h:B≤g) (e:(Value.slice (some ⟨g,0,none⟩) n c).ownBlock=some x):B≤x:=by
 have:g=x:=by simpa [Value.ownBlock]using e
 omega
set_option maxRecDepth 100000 in
set_option maxHeartbeats 4000000 in
theorem Zhb {w:World} {yc y q:Nat} {Z:CZ} {s:PS} {lv:Value} {E R:Nat→Prop} {t:Nat} (H:Rx w yc y q Z s lv E R) (ok:Z.ok t) (ht:t≤10000):
 Calls Tryz.prog 237 #[.pointer (some ⟨yc,0,none⟩)] w fun r w'=>r= .returned (.int .i64 Z.roomE)∧RTo yc y q E R Z.room w w':=by
 have hlen:Z.l.length≤64:=by have:=ok.len;have:=ok.n2;omega
 obtain⟨y0,y1,y2,y3,y4⟩:=H.cells
 obtain⟨a0,c0,rfl⟩:=H.ow.shape
 have hS:∀ u,Below w.heap.size w u→(u.cell? ⟨yc,1,none⟩=some (.int .i64 Z.n)∧u.cell? ⟨yc,2,none⟩=some (.slice a0 Z.l.length c0)):=fun u hu=>
  ⟨(Stp.of_below hu (fun _=>False)).cell y1 id,(Stp.of_below hu (fun _=>False)).cell y2 id⟩
 by_cases hl:Z.l.length < Z.n
 · have e1:Z.roomE=0:=by unfold CZ.roomE;rw [if_pos hl]
   have e2:Z.room=Z:=by unfold CZ.room;rw [if_pos hl]
   rw [e1,e2];clear e1 e2
   have hl':(Z.l.length:Int) < (Z.n:Int):=by omega
   go_enter Tryz.func237,Tryz.ntmps237
   go_wp2
   refine wp_region_held_drew (S:=fun u=>u.cell? ⟨yc,1,none⟩=some (.int .i64 Z.n)∧u.cell? ⟨yc,2,none⟩=some (.slice a0 Z.l.length c0)) (by kernel_rfl) (hS _ (Below.refl _ _).drew) (fun hHeld=>?_)
   refine tl 0 (.pointer (some ⟨yc,0,none⟩)) rfl ?_
   try simp only [z]
   refine tl 1 (.pointer (some ⟨yc,0,none⟩)) rfl ?_
   try simp only [z]
   refine tl 2 (.pointer (some ⟨yc,2,none⟩)) rfl ?_
   try simp only [z]
   refine tl 3 (.slice a0 Z.l.length c0) rfl ?_ (fun u hu=>by have x1:=hu.2;go_simp)
   try simp only [z]
   refine tl 4 (.int .i64 (Z.l.length:Int)) rfl ?_
   try simp only [z]
   refine tl 5 (.pointer (some ⟨yc,0,none⟩)) rfl ?_
   try simp only [z]
   refine tl 6 (.pointer (some ⟨yc,0,none⟩)) rfl ?_
   try simp only [z]
   refine tl 7 (.pointer (some ⟨yc,1,none⟩)) rfl ?_
   try simp only [z]
   refine tl 8 (.int .i64 (Z.n:Int)) rfl ?_ (fun u hu=>by have x1:=hu.1;go_simp)
   try simp only [z]
   refine tl 9 (.bool true) rfl ?_
   try simp only [z]
   refine wpAnyH_done (by kernel_rfl) ?_ _
   go_wp2
   go_returns
   have bD:Below w.heap.size w w.drew:=(Below.refl _ w).drew
   exact⟨rfl,(H.later bD).here (Stp.of_below bD _)⟩
 · have hl':¬((Z.l.length:Int) < (Z.n:Int)):=by omega
   have ho:=Z8t Z.l.length Z.l rfl
   go_enter Tryz.func237,Tryz.ntmps237
   go_wp2
   refine wp_region_held_drew (S:=fun u=>u.cell? ⟨yc,1,none⟩=some (.int .i64 Z.n)∧u.cell? ⟨yc,2,none⟩=some (.slice a0 Z.l.length c0)) (by kernel_rfl) (hS _ (Below.refl _ _).drew) (fun hHeld=>?_)
   refine tl 0 (.pointer (some ⟨yc,0,none⟩)) rfl ?_
   try simp only [z]
   refine tl 1 (.pointer (some ⟨yc,0,none⟩)) rfl ?_
   try simp only [z]
   refine tl 2 (.pointer (some ⟨yc,2,none⟩)) rfl ?_
   try simp only [z]
   refine tl 3 (.slice a0 Z.l.length c0) rfl ?_ (fun u hu=>by have x1:=hu.2;go_simp)
   try simp only [z]
   refine tl 4 (.int .i64 (Z.l.length:Int)) rfl ?_
   try simp only [z]
   refine tl 5 (.pointer (some ⟨yc,0,none⟩)) rfl ?_
   try simp only [z]
   refine tl 6 (.pointer (some ⟨yc,0,none⟩)) rfl ?_
   try simp only [z]
   refine tl 7 (.pointer (some ⟨yc,1,none⟩)) rfl ?_
   try simp only [z]
   refine tl 8 (.int .i64 (Z.n:Int)) rfl ?_ (fun u hu=>by have x1:=hu.1;go_simp)
   try simp only [z]
   refine tl 9 (.bool false) rfl ?_
   try simp only [z]
   refine wpAnyH_done (by kernel_rfl) ?_ _
   clear hHeld
   have bD:Below w.heap.size w w.drew:=(Below.refl _ w).drew
   have y2D:w.drew.cell? ⟨yc,2,none⟩=some (.slice a0 Z.l.length c0):=y2
   go_wp2
   go_loopw [3] (fun v wr=>∃ k:Nat,k≤Z.l.length∧v= .int .i64 ((k:Int) - 1)∧oldN Z.l Z.l.length=oldN Z.l k∧Below w.heap.size w wr) (fun v _=>(intOf v+1).toNat)
   case atStart=>exact⟨Z.l.length,Nat.le_refl _,by go_num,rfl,bD⟩
   case round=>
    obtain⟨k,hk,rfl,hk2,hb⟩:=hrel
    have H2:=H.later hb
    obtain⟨z0,z1,z2,z3,z4⟩:=H2.cells
    cases k with
    | zero=>
      have hv:vic Z.l=none:=by
       cases hv:vic Z.l with
       | none=>rfl
       | some e=>
         rw [hv]at ho
         obtain⟨k',h1,h2,h3⟩:=ho
         rw [hk2]at h2
         have h2:(-1:Int)=(k':Int):=h2
         omega
      have hH:Hid (Z.roomE=4∧Z.room=Z):=by
       refine⟨?_,?_⟩
       · unfold CZ.roomE;rw [if_neg hl,hv]
       · unfold CZ.room;rw [if_neg hl,hv]
      go_wp2
      go_returns
      exact⟨by rw [hH.out.1];rfl,by rw [hH.out.2];exact H2.here (Stp.of_below hb _)⟩
    | succ k=>
      have hkl:k < Z.l.length:=by omega
      have hne:Z.l≠ []:=by intro e;rw [e]at hkl;simp at hkl
      obtain⟨g0,cap,cur,elv,hw⟩:=H2.ow.row1 hne
      obtain⟨p1, -,p2⟩:=Value.slice.inj elv
      subst p1;subst p2;clear elv
      have rk:=hw.range k hkl
      have hmem:=Z8h hkl
      have hrm:=Zmb ok.nd hkl
      have hpn:=ok.pin _ hmem
      have hfe:fndC Z.l (Z.l.getD k e0).1=some (Z.l.getD k e0).2:=Z6b ok.nd hmem
      have ho2:oldN Z.l (k+1)=if (Z.l.getD k e0).2.pn=0 then(k:Int)else oldN Z.l k:=by
       conv=>lhs;unfold oldN
       rw [show Z.l[k]? =some (Z.l.getD k e0) by rw [List.getD_eq_getElem?_getD,List.getElem?_eq_getElem hkl];rfl]
      have hvk:(Z.l.getD k e0).2.pn=0→vic Z.l=some (Z.l.getD k e0):=fun hp=>by
       rw [if_pos hp]at ho2
       cases hv:vic Z.l with
       | none=>
         rw [hv]at ho
         have ho:oldN Z.l Z.l.length= -1:=ho
         omega
       | some e=>
         rw [hv]at ho
         obtain⟨k',h1,h2,h3⟩:=ho
         obtain rfl:k'=k:=by omega
         rw [List.getD_eq_getElem?_getD,h3];rfl
      generalize he:Z.l.getD k e0=e at *
      have a1:(0:Int)≤(k:Int):=by omega
      have a2:(k:Int) < (Z.l.length:Int):=by omega
      have a3:IntKind.i64.wrap ((k:Int) - 1)=(k:Int) - 1:=by rw [IntKind.wrap_i64];omega
      have a4:((k+1:Nat):Int) - 1=(k:Int):=by omega
      have a5:IntKind.i64.wrap ((k:Int)+1)=(k:Int)+1:=by rw [IntKind.wrap_i64];omega
      rw [a4]
      by_cases hp:e.2.pn=0
      · have hv:=hvk hp
        clear hvk ho2 ho
        cases hch:e.2.ch with
        | false=>
          have hH:Hid (Z.roomE=0∧Z.room=Z.less e.1):=by
           have hb1:Z.backE e.1=0:=by unfold CZ.backE bkE;rw [hfe];simp [hch]
           have hb2:Z.back e.1=Z:=by unfold CZ.back;rw [hfe];simp [hch]
           refine⟨?_,?_⟩
           · unfold CZ.roomE;rw [if_neg hl,hv];exact hb1
           · unfold CZ.room;rw [if_neg hl,hv];simp only [hb1,if_true,hb2]
          clear hv hfe
          go_wp2_with (first
           | (refine Z4i (by rfl) _ (by rfl) g0 (k * 67) (by rfl) e rk ?_)
           | (refine Za8 (by rfl) (by rfl) ?_;intro gx w6 a6 l6 r6 b6)
           | (refine Za9 (by rfl) _ _ (by rfl) gx (by rfl) e (by rfl) _ r6 ?_;intro WX r7 s7
              have B7:Below wr.heap.size wr WX:=((Stp.of_below b6 (fun x=>wr.heap.size≤x)).next s7 (fun x e=> .inl (e▸a6))).below (Nat.le_refl _) (fun _ h=>h)
              have x1:WX.cell? ⟨gx,66,none⟩=some (.int .i64 0):=by have:=Zd4 r7.range;rw [hp]at this;simpa using this
              have x2:WX.cell? ⟨gx,65,none⟩=some (.bool false):=by have:=Zja r7.range;rw [hch]at this;simpa using this
              clear r6 b6 s7))
          have HX:=H2.later B7
          have HWX:RwL WX g0 c0 Z.l cur:=⟨by rw [B7.block g0 hw.lt];exact hw.at',hw.le,hw.cm,hw.size,hw.take⟩
          have BX:Below w.heap.size w WX:=Z01 hb B7 (Nat.le_refl _)
          have hwX:RwL WX g0 c0 Z.l cur:=HWX
          have z2:=HX.c.cell 2 _ rfl
          have hlk:(Z.l.take k).length=k:=by rw [List.length_take];omega
          have hdk:(Z.l.drop (k+1)).length=Z.l.length - (k+1):=List.length_drop
          have hcap:Z.l.length≤c0:=hwX.le
          have hkc:k≤c0:=by omega
          have hkc':(k:Int)≤(c0:Int):=by omega
          have hk1a:(0:Int)≤(k:Int)+1:=by omega
          have hk1b:(k:Int)+1≤(Z.l.length:Int):=by omega
          have htn:((k:Int)+1).toNat=k+1:=by omega
          obtain ⟨ad2,hif,had⟩:∃ ad2:Addr,(if c0=k+1 then some (⟨g0,0,none⟩:Addr)else some ⟨g0,(k+1) * 67,none⟩)=some ad2∧(c0≠k+1→ad2=⟨g0,(k+1) * 67,none⟩):=by
           by_cases hc:c0=k+1
           · exact⟨_,if_pos hc,fun h=>absurd hc h⟩
           · exact⟨_,if_neg hc,fun _=>rfl⟩
          have ncell:∀ (u:World),Below WX.heap.size WX u→∀ j x,(flN Z.l)[j]? =some x→u.cell? ⟨g0,j,none⟩=some x:=fun u hu j x hx=>(Stp.of_below hu (fun _=>False)).cell (hwX.cells j x hx) id
          have nc1:∀ (u:World),Below WX.heap.size WX u→∀ j x,(flN (Z.l.take k))[j]? =some x→u.cell? ((⟨g0,0,none⟩:Addr).add j)=some x:=fun u hu j x hx=>by
           rw [← Zif,List.getElem?_take]at hx
           rw [Addr.add_mid,Nat.zero_add]
           split at hx
           · exact ncell u hu j x hx
           · cases hx
          have nc2:∀ (u:World),Below WX.heap.size WX u→∀ j x,(flN (Z.l.drop (k+1)))[j]? =some x→u.cell? (ad2.add j)=some x:=fun u hu j x hx=>by
           rw [← Zie,List.getElem?_drop]at hx
           have hj:=(List.getElem?_eq_some_iff.1 hx).1
           rw [Z5q]at hj
           have hc:c0≠k+1:=fun hc=>by
            have:Z.l.length * 67≤(k+1) * 67:=Nat.mul_le_mul_right _ (by omega)
            omega
           rw [had hc,Addr.add_mid]
           exact ncell u hu _ x hx
          clear had
          go_wp2_with fail
          refine Z0n (S:=fun u=>u.cell? ⟨yc,2,none⟩=some (.slice (some ⟨g0,0,none⟩) Z.l.length c0)) _ _ (by simp only [List.pop_toArray,List.dropLast_cons_cons,List.dropLast_singleton];rfl) (by simp only [List.back?_toArray,List.getLast?_cons_cons,List.getLast?_singleton];rfl) (by kernel_rfl) (by kernel_rfl) z2 (fun hHeld=>?_)
          refine tl 0 (.pointer (some ⟨yc,0,none⟩)) rfl ?_
          try simp only [z]
          refine tl 2 (.pointer (some ⟨yc,0,none⟩)) rfl ?_
          try simp only [z]
          refine tl 3 (.pointer (some ⟨yc,0,none⟩)) rfl ?_
          try simp only [z]
          refine tl 4 (.pointer (some ⟨yc,2,none⟩)) rfl ?_
          try simp only [z]
          refine tl 5 (.slice (some ⟨g0,0,none⟩) Z.l.length c0) rfl ?_ (fun u hu=>by have x1:=hu;go_simp)
          try simp only [z]
          refine tl 6 (.int .i64 (k:Int)) rfl ?_
          try simp only [z]
          refine tl 7 (.slice (some ⟨g0,0,none⟩) (Z.l.take k).length c0) rfl ?_ (fun u hu=>by rw [hlk];clear hif;go_simp)
          try simp only [z]
          refine tl 9 (.pointer (some ⟨yc,0,none⟩)) rfl ?_
          try simp only [z]
          refine tl 10 (.pointer (some ⟨yc,0,none⟩)) rfl ?_
          try simp only [z]
          refine tl 11 (.pointer (some ⟨yc,2,none⟩)) rfl ?_
          try simp only [z]
          refine tl 12 (.slice (some ⟨g0,0,none⟩) Z.l.length c0) rfl ?_ (fun u hu=>by have x1:=hu;go_simp)
          try simp only [z]
          refine tl 13 (.int .i64 (k:Int)) rfl ?_
          try simp only [z]
          refine tl 14 (.int .i64 ((k:Int)+1)) rfl ?_
          try simp only [z]
          refine tl 15 (.slice (some ad2) (Z.l.drop (k+1)).length (c0 - (k+1))) rfl ?_ (fun u hu=>by rw [hdk];go_simp)
          try simp only [z]
          refine rd 1 rfl (fun K hK=>?_)
          refine Zdt rfl rfl ?_
          intro g1 v1 a1' l1' o1 b1'
          have B1':Below WX.heap.size WX v1:=Z01 ((Below.refl _ WX).drew) b1' (Nat.le_refl _)
          have hg1:WX.heap.size≤g1:=a1'
          refine hK.out _ _ ((Stp.of_below B1' (fun _=>False)).cell z2 id) (fun hHeld=>?_)
          clear hK K
          try simp only [z]
          refine rd 8 rfl (fun K hK=>?_)
          refine Z5c (v:= .slice (some ⟨g1,0,none⟩) 0 0) (B:=WX.heap.size) (l:= []) (l2:=Z.l.take k) rfl (.tmp 51) (.tmp 57) rfl rfl o1 (Z5x hg1) (by simp) ⟨g0,0,none⟩ c0 rfl (nc1 _ B1') (by simp;omega) B1'.size ?_
          intro g2 c2 v2 o2 ng2 s2
          have B2':Below WX.heap.size WX v2:=((Stp.of_below B1' (fun x=>WX.heap.size≤x)).next s2 (fun x e=> .inl (Z9k hg1 e))).below (Nat.le_refl _) (fun _ h=>h)
          refine hK.out _ _ ((Stp.of_below B2' (fun _=>False)).cell z2 id) (fun hHeld=>?_)
          clear hK K
          try simp only [z]
          refine rd 16 rfl (fun K hK=>?_)
          refine Z5c (v:= .slice (some ⟨g2,0,none⟩) (([]:El).length+(Z.l.take k).length) c2) (B:=WX.heap.size) (l:= []++Z.l.take k) (l2:=Z.l.drop (k+1)) rfl (.tmp 58) (.tmp 65) rfl rfl o2 (Z5x ng2) (by simp) ad2 (c0 - (k+1)) rfl (nc2 _ B2') (by simp;omega) B2'.size ?_
          intro g3 c3 v3 o3 ng3 s3
          have B3':Below WX.heap.size WX v3:=((Stp.of_below B2' (fun x=>WX.heap.size≤x)).next s3 (fun x e=> .inl (Z9k ng2 e))).below (Nat.le_refl _) (fun _ h=>h)
          refine hK.out _ _ ((Stp.of_below B3' (fun _=>False)).cell z2 id) (fun hHeld=>?_)
          clear hK K
          try simp only [z]
          refine tl 17 (.pointer (some ⟨yc,0,none⟩)) rfl ?_
          try simp only [z]
          refine tl 18 (.pointer (some ⟨yc,2,none⟩)) rfl ?_
          try simp only [z]
          refine wpAnyH_done (by kernel_rfl) ?_ _
          have hl3: []++Z.l.take k++Z.l.drop (k+1)=rmv Z.l e.1:=by rw [List.nil_append];exact hrm
          have o4:OwL v3 (.slice (some ⟨g3,0,none⟩) (([]++Z.l.take k).length+(Z.l.drop (k+1)).length) c3) (rmv Z.l e.1):=by rw [← hl3];exact o3
          have z3:=hHeld
          have f3:v3.frozen? ⟨yc,2,none⟩=false:=((HX.c.later B3').frozen 2)
          obtain⟨E',HF,sF,gF⟩:=HX.gone (i:=e.1) B3' o4 (Z5x ng3)
          show wpList _ _ _ [_] _ _
          refine Z3c (by rfl) rfl (w':=v3.setCell ⟨yc,2,none⟩ (.slice (some ⟨g3,0,none⟩) (([]++Z.l.take k).length+(Z.l.drop (k+1)).length) c3)) (by go_simp) ?_
          clear hHeld z3 f3 o4 o3 o2 o1 hl3
          go_wp2_with fail
          go_returns
          exact⟨by rw [hH.out.1];rfl,RTo.pre ⟨s,_,E',R,by rw [hH.out.2];exact HF,sF.mono (fun x e=> .inl (.inl e)),gF,Grew.refl _ _ _⟩ BX⟩
        | true=>
          have hbE:Z.backE e.1=Z0b Z.d Z.p e.1:=by unfold CZ.backE bkE;rw [hfe];simp [hch]
          have hbk:Z.back e.1=Z.wrt e.1 e.2:=by unfold CZ.back;rw [hfe];simp [hch]
          have hrE:Z.roomE=Z0b Z.d Z.p e.1:=by unfold CZ.roomE;rw [if_neg hl,hv];exact hbE
          go_wp2_with (first
           | (refine Z4i (by rfl) _ (by rfl) g0 (k * 67) (by rfl) e rk ?_)
           | (refine Za8 (by rfl) (by rfl) ?_;intro gx w6 a6 l6 r6 b6)
           | (refine Za9 (by rfl) _ _ (by rfl) gx (by rfl) e (by rfl) _ r6 ?_;intro w7 r7 s7
              have B7:Below wr.heap.size wr w7:=((Stp.of_below b6 (fun x=>wr.heap.size≤x)).next s7 (fun x e=> .inl (e▸a6))).below (Nat.le_refl _) (fun _ h=>h)
              have x1:w7.cell? ⟨gx,66,none⟩=some (.int .i64 0):=by have:=Zd4 r7.range;rw [hp]at this;simpa using this
              have x2:w7.cell? ⟨gx,65,none⟩=some (.bool true):=by have:=Zja r7.range;rw [hch]at this;simpa using this
              clear r6 b6 s7))
          have H7:=H2.later B7
          have B70:Below w.heap.size w w7:=Z01 hb B7 (Nat.le_refl _)
          have hw7:RwL w7 g0 c0 Z.l cur:=⟨by rw [B7.block g0 hw.lt];exact hw.at',hw.le,hw.cm,hw.size,hw.take⟩
          have hW:=fun u (hu:Below w7.heap.size w7 u)=>Zmp (H7.later hu) ok ht e.1 e.2.b
          have rgb:=Znh r7.range
          have c7:=Zj9 r7.range
          have q0:=H7.c.cell 0 _ rfl
          have hEg:=H7.eo g0 rfl
          have hgx:¬(R gx∨gx=q):=fun e=>by
           rcases e with e | e
           · have:=H2.rd.lt gx e;omega
           · have:=H2.qt;omega
          have far:∀ x,E x→¬(R x∨x=q):=fun x hx e=>by
           rcases e with e | e
           · exact H.er x hx e
           · exact H.eq (e▸hx)
          have hS7:∀ u,Stp (fun x=>R x∨x=q) w7 u→(u.cell? ⟨yc,0,none⟩=some (.pointer (some ⟨y,0,none⟩))∧u.cell? ⟨gx,0,none⟩=some (.int .i64 e.1)∧u.rangeAt gx 1 e.2.b.cs):=fun u hu=>
           ⟨hu.cell q0 (far _ H.eg),hu.cell c7 hgx,by have:=hu.range rgb hgx;simpa using this⟩
          clear y0 y1 y2 y3 y4 z0 z1 z2 z3 z4 y2D hS
          refine wp_region_held_drew (S:=fun u=>u.cell? ⟨yc,0,none⟩=some (.pointer (some ⟨y,0,none⟩))∧u.cell? ⟨gx,0,none⟩=some (.int .i64 e.1)∧u.rangeAt gx 1 e.2.b.cs) (by kernel_rfl) (hS7 _ (Stp.refl _ w7).drew) (fun hHeld=>?_)
          refine tl 0 (.pointer (some ⟨yc,0,none⟩)) rfl ?_
          try simp only [z]
          refine tl 1 (.pointer (some ⟨yc,0,none⟩)) rfl ?_
          try simp only [z]
          refine tl 2 (.pointer (some ⟨yc,0,none⟩)) rfl ?_
          try simp only [z]
          refine tl 3 (.pointer (some ⟨y,0,none⟩)) rfl ?_ (fun u hu=>by have x1:=hu.1;go_simp)
          try simp only [z]
          refine tl 4 (.pointer (some ⟨gx,0,none⟩)) rfl ?_
          try simp only [z]
          refine tl 5 (.int .i64 e.1) rfl ?_ (fun u hu=>by have x1:=hu.2.1;go_simp)
          try simp only [z]
          refine tl 6 (.pointer (some ⟨gx,1,none⟩)) rfl ?_
          try simp only [z]
          refine tm 7 (.agg e.2.b.cs.toArray) rfl
           (Z98 (by rfl) _ (by rfl) gx 1 (by rfl) e.2.b (fun u hu=>hu.2.2)) ?_
          try simp only [z]
          refine rd 8 rfl (fun K hK=>?_)
          go_simp
          refine(hW _ (Below.refl _ _).drew).mono ?_
          rintro e' WX ⟨rfl,s',R',HX,hk7,hg7⟩
          try go_wp2_with fail
          have hk8:Stp (fun x=>R x∨x=q) w7 WX:=((Stp.refl _ w7).drew).trans hk7
          refine hK.out _ _ (hS7 _ hk8) (fun hHeld=>?_)
          clear hK K
          try simp only [z]
          refine tl 9 (.int .i64 (Z0b Z.d Z.p e.1)) rfl ?_
          try simp only [z]
          refine wpAnyH_done (by kernel_rfl) ?_ _
          clear hHeld hS7 hW rgb c7 q0
          have S8:Stp (Rl q E R) w7 WX:=hk8.mono (fun x e=> .inl (.inr e))
          by_cases hu:Z0b Z.d Z.p e.1=0
          · have hH:Hid (Z.roomE=0∧Z.room=CZ.less { Z with d:=Z.d.write Z.p e.1 e.2.b,p:=useP Z.d Z.p e.1} e.1):=by
             refine⟨by rw [hrE,hu],?_⟩
             unfold CZ.room
             rw [if_neg hl,hv]
             simp only [hbE,hu,if_true,hbk]
             unfold CZ.less CZ.wrt
             simp only [hu,if_true]
             rcases Zml Z.l e.1 ⟨e.2.b,false,e.2.pn⟩with h | h
             · rw [h]
             · exact absurd ok.nd h
            rw [hu]
            have HWX:RwL WX g0 c0 Z.l cur:=⟨by rw [hk8.block g0 hw7.lt (far _ hEg.1)];exact hw7.at',hw.le,hw.cm,hw.size,hw.take⟩
            clear hu hrE hbE hbk hfe hv
            have hwX:RwL WX g0 c0 Z.l cur:=HWX
            have z2:=HX.c.cell 2 _ rfl
            have hlk:(Z.l.take k).length=k:=by rw [List.length_take];omega
            have hdk:(Z.l.drop (k+1)).length=Z.l.length - (k+1):=List.length_drop
            have hcap:Z.l.length≤c0:=hwX.le
            have hkc:k≤c0:=by omega
            have hkc':(k:Int)≤(c0:Int):=by omega
            have hk1a:(0:Int)≤(k:Int)+1:=by omega
            have hk1b:(k:Int)+1≤(Z.l.length:Int):=by omega
            have htn:((k:Int)+1).toNat=k+1:=by omega
            obtain ⟨ad2,hif,had⟩:∃ ad2:Addr,(if c0=k+1 then some (⟨g0,0,none⟩:Addr)else some ⟨g0,(k+1) * 67,none⟩)=some ad2∧(c0≠k+1→ad2=⟨g0,(k+1) * 67,none⟩):=by
             by_cases hc:c0=k+1
             · exact⟨_,if_pos hc,fun h=>absurd hc h⟩
             · exact⟨_,if_neg hc,fun _=>rfl⟩
            have ncell:∀ (u:World),Below WX.heap.size WX u→∀ j x,(flN Z.l)[j]? =some x→u.cell? ⟨g0,j,none⟩=some x:=fun u hu j x hx=>(Stp.of_below hu (fun _=>False)).cell (hwX.cells j x hx) id
            have nc1:∀ (u:World),Below WX.heap.size WX u→∀ j x,(flN (Z.l.take k))[j]? =some x→u.cell? ((⟨g0,0,none⟩:Addr).add j)=some x:=fun u hu j x hx=>by
             rw [← Zif,List.getElem?_take]at hx
             rw [Addr.add_mid,Nat.zero_add]
             split at hx
             · exact ncell u hu j x hx
             · cases hx
            have nc2:∀ (u:World),Below WX.heap.size WX u→∀ j x,(flN (Z.l.drop (k+1)))[j]? =some x→u.cell? (ad2.add j)=some x:=fun u hu j x hx=>by
             rw [← Zie,List.getElem?_drop]at hx
             have hj:=(List.getElem?_eq_some_iff.1 hx).1
             rw [Z5q]at hj
             have hc:c0≠k+1:=fun hc=>by
              have:Z.l.length * 67≤(k+1) * 67:=Nat.mul_le_mul_right _ (by omega)
              omega
             rw [had hc,Addr.add_mid]
             exact ncell u hu _ x hx
            clear had
            go_wp2_with fail
            refine Z0n (S:=fun u=>u.cell? ⟨yc,2,none⟩=some (.slice (some ⟨g0,0,none⟩) Z.l.length c0)) _ _ (by simp only [List.pop_toArray,List.dropLast_cons_cons,List.dropLast_singleton];rfl) (by simp only [List.back?_toArray,List.getLast?_cons_cons,List.getLast?_singleton];rfl) (by kernel_rfl) (by kernel_rfl) z2 (fun hHeld=>?_)
            refine tl 0 (.pointer (some ⟨yc,0,none⟩)) rfl ?_
            try simp only [z]
            refine tl 2 (.pointer (some ⟨yc,0,none⟩)) rfl ?_
            try simp only [z]
            refine tl 3 (.pointer (some ⟨yc,0,none⟩)) rfl ?_
            try simp only [z]
            refine tl 4 (.pointer (some ⟨yc,2,none⟩)) rfl ?_
            try simp only [z]
            refine tl 5 (.slice (some ⟨g0,0,none⟩) Z.l.length c0) rfl ?_ (fun u hu=>by have x1:=hu;go_simp)
            try simp only [z]
            refine tl 6 (.int .i64 (k:Int)) rfl ?_
            try simp only [z]
            refine tl 7 (.slice (some ⟨g0,0,none⟩) (Z.l.take k).length c0) rfl ?_ (fun u hu=>by rw [hlk];clear hif;go_simp)
            try simp only [z]
            refine tl 9 (.pointer (some ⟨yc,0,none⟩)) rfl ?_
            try simp only [z]
            refine tl 10 (.pointer (some ⟨yc,0,none⟩)) rfl ?_
            try simp only [z]
            refine tl 11 (.pointer (some ⟨yc,2,none⟩)) rfl ?_
            try simp only [z]
            refine tl 12 (.slice (some ⟨g0,0,none⟩) Z.l.length c0) rfl ?_ (fun u hu=>by have x1:=hu;go_simp)
            try simp only [z]
            refine tl 13 (.int .i64 (k:Int)) rfl ?_
            try simp only [z]
            refine tl 14 (.int .i64 ((k:Int)+1)) rfl ?_
            try simp only [z]
            refine tl 15 (.slice (some ad2) (Z.l.drop (k+1)).length (c0 - (k+1))) rfl ?_ (fun u hu=>by rw [hdk];go_simp)
            try simp only [z]
            refine rd 1 rfl (fun K hK=>?_)
            refine Zdt rfl rfl ?_
            intro g1 v1 a1' l1' o1 b1'
            have B1':Below WX.heap.size WX v1:=Z01 ((Below.refl _ WX).drew) b1' (Nat.le_refl _)
            have hg1:WX.heap.size≤g1:=a1'
            refine hK.out _ _ ((Stp.of_below B1' (fun _=>False)).cell z2 id) (fun hHeld=>?_)
            clear hK K
            try simp only [z]
            refine rd 8 rfl (fun K hK=>?_)
            refine Z5c (v:= .slice (some ⟨g1,0,none⟩) 0 0) (B:=WX.heap.size) (l:= []) (l2:=Z.l.take k) rfl (.tmp 51) (.tmp 57) rfl rfl o1 (Z5x hg1) (by simp) ⟨g0,0,none⟩ c0 rfl (nc1 _ B1') (by simp;omega) B1'.size ?_
            intro g2 c2 v2 o2 ng2 s2
            have B2':Below WX.heap.size WX v2:=((Stp.of_below B1' (fun x=>WX.heap.size≤x)).next s2 (fun x e=> .inl (Z9k hg1 e))).below (Nat.le_refl _) (fun _ h=>h)
            refine hK.out _ _ ((Stp.of_below B2' (fun _=>False)).cell z2 id) (fun hHeld=>?_)
            clear hK K
            try simp only [z]
            refine rd 16 rfl (fun K hK=>?_)
            refine Z5c (v:= .slice (some ⟨g2,0,none⟩) (([]:El).length+(Z.l.take k).length) c2) (B:=WX.heap.size) (l:= []++Z.l.take k) (l2:=Z.l.drop (k+1)) rfl (.tmp 58) (.tmp 65) rfl rfl o2 (Z5x ng2) (by simp) ad2 (c0 - (k+1)) rfl (nc2 _ B2') (by simp;omega) B2'.size ?_
            intro g3 c3 v3 o3 ng3 s3
            have B3':Below WX.heap.size WX v3:=((Stp.of_below B2' (fun x=>WX.heap.size≤x)).next s3 (fun x e=> .inl (Z9k ng2 e))).below (Nat.le_refl _) (fun _ h=>h)
            refine hK.out _ _ ((Stp.of_below B3' (fun _=>False)).cell z2 id) (fun hHeld=>?_)
            clear hK K
            try simp only [z]
            refine tl 17 (.pointer (some ⟨yc,0,none⟩)) rfl ?_
            try simp only [z]
            refine tl 18 (.pointer (some ⟨yc,2,none⟩)) rfl ?_
            try simp only [z]
            refine wpAnyH_done (by kernel_rfl) ?_ _
            have hl3: []++Z.l.take k++Z.l.drop (k+1)=rmv Z.l e.1:=by rw [List.nil_append];exact hrm
            have o4:OwL v3 (.slice (some ⟨g3,0,none⟩) (([]++Z.l.take k).length+(Z.l.drop (k+1)).length) c3) (rmv Z.l e.1):=by rw [← hl3];exact o3
            have z3:=hHeld
            have f3:v3.frozen? ⟨yc,2,none⟩=false:=((HX.c.later B3').frozen 2)
            obtain⟨E',HF,sF,gF⟩:=HX.gone (i:=e.1) B3' o4 (Z5x ng3)
            show wpList _ _ _ [_] _ _
            refine Z3c (by rfl) rfl (w':=v3.setCell ⟨yc,2,none⟩ (.slice (some ⟨g3,0,none⟩) (([]++Z.l.take k).length+(Z.l.drop (k+1)).length) c3)) (by go_simp) ?_
            clear hHeld z3 f3 o4 o3 o2 o1 hl3
            go_wp2_with fail
            go_returns
            exact⟨by rw [hH.out.1];rfl,RTo.pre (RTo.mk' S8 ⟨s',_,E',R',by rw [hH.out.2];exact HF,sF.mono (fun x e=> .inl (.inl e)),gF,Grew.refl _ _ _⟩ (Grew.refl _ _ _) hg7) B70⟩
          · have hH:Hid (Z.roomE=Z0b Z.d Z.p e.1∧Z.room= { Z with d:=Z.d.write Z.p e.1 e.2.b,p:=useP Z.d Z.p e.1}):=by
             refine⟨hrE,?_⟩
             unfold CZ.room
             rw [if_neg hl,hv]
             simp only [hbE,hu,if_false,hbk]
             unfold CZ.wrt
             rw [if_neg hu]
            clear hrE hbE hbk hfe hv
            go_wp2
            go_returns
            exact⟨by rw [hH.out.1];rfl,RTo.pre ⟨s',_,E,R',by rw [hH.out.2];exact HX,S8,Grew.refl _ _ _,hg7⟩ B70⟩
      · have hp':0 < e.2.pn:=by omega
        have hH:Hid (oldN Z.l Z.l.length=oldN Z.l k):=by show _=_;rw [hk2,ho2,if_neg hp]
        clear hvk ho2 ho hk2
        go_wp2_with (first
         | (refine Z4i (by rfl) _ (by rfl) g0 (k * 67) (by rfl) e rk ?_)
         | (refine Za8 (by rfl) (by rfl) ?_;intro gx w6 a6 l6 r6 b6)
         | (refine Za9 (by rfl) _ _ (by rfl) gx (by rfl) e (by rfl) _ r6 ?_;intro w7 r7 s7
            have B7:Below wr.heap.size wr w7:=((Stp.of_below b6 (fun x=>wr.heap.size≤x)).next s7 (fun x e=> .inl (e▸a6))).below (Nat.le_refl _) (fun _ h=>h)
            have x1:w7.cell? ⟨gx,66,none⟩=some (.int .i64 e.2.pn):=by have:=Zd4 r7.range;simpa using this
            clear r6 b6 s7))
        go_roundw
        case rel=>exact⟨k,by omega,by go_num,hH.out,Z01 hb B7 (Nat.le_refl _)⟩
        case measure=>simp [intOf]
set_option maxRecDepth 100000
theorem Zh9 {Z:CZ} {i:Int} (hn:fndC Z.l i=none):Z.room.d.shown i=Z.d.shown i:=by
 have hb:∀ k,k ∈ keys Z.l→(Z.back k).d.shown i=Z.d.shown i:=fun k hk=>by
  have hne:i≠k:=fun e=>Z1s.1 hn (e▸hk)
  unfold CZ.back
  split
  · rfl
  · split
    · exact Zatq _ i hne
    · rfl
 unfold CZ.room
 split
 · rfl
 · cases hv:vic Z.l with
   | none=>rfl
   | some e=>
     have hk:=Z5v (q:=e.2) (Zax hv).1
     simp only
     split
     · exact hb e.1 hk
     · exact hb e.1 hk
theorem Rx.stable {w:World} {yc y q:Nat} {Z:CZ} {s:PS} {lv:Value} {E R:Nat→Prop} (H:Rx w yc y q Z s lv E R):∃ sb,w.cell? ⟨y,1,none⟩=some (.slice (some ⟨sb,0,none⟩) Z.d.n Z.d.n):=by
 obtain⟨sb,t,v,h⟩:=H.rd
 exact⟨sb,h.c1⟩
set_option maxRecDepth 100000 in
set_option maxHeartbeats 4000000 in
theorem Zjm {w:World} {yc y q:Nat} {Z:CZ} {s:PS} {lv:Value} {E R:Nat→Prop} {t:Nat} (H:Rx w yc y q Z s lv E R) (ok:Z.ok t) (ht:t≤10000) (i:Int) (hwi:(Lit.int .i64 i).wf=true):
 Calls Tryz.prog 162 #[.pointer (some ⟨yc,0,none⟩), .int .i64 i] w fun r w'=>r= .returned (.int .i64 (Z.holdE i))∧RTo yc y q E R (Z.hold i) w w':=by
 have hlen:Z.l.length≤64:=by have:=ok.len;have:=ok.n2;omega
 obtain⟨y0,y1,y2,y3,y4⟩:=H.cells
 obtain⟨sb,yS⟩:=H.stable
 by_cases hi:Z.d.inn i
 · obtain⟨hi0,hi1⟩:=hi
   have hi:Z.d.inn i:=⟨hi0,hi1⟩
   have hi0':¬(i < 0):=by omega
   have hfi:=Zh3 H i hlen
   cases hq:fndC Z.l i with
   | some p=>
     obtain⟨k1,k2,k3⟩:=Z8j hq
     have hup:=Zpw hq
     have e3:pos Z.l i=(idx Z.l i:Int):=by unfold pos;rw [hq]
     have hH:Hid (Z.holdE i=0∧Z.hold i=Z.hit i p):=by
      refine⟨?_,?_⟩
      · unfold CZ.holdE;rw [if_pos hi,hq]
      · unfold CZ.hold;rw [if_pos hi,hq]
     rw [e3]at hfi;clear e3
     generalize idx Z.l i=k at *
     have hne:Z.l≠ []:=by intro e;rw [e]at k1;simp at k1
     obtain⟨g0,cap,cur,elv,hw⟩:=H.ow.row1 hne
     subst elv
     have H1:=H.hit (wrap64 (Z.h+1))
     have s1:Stp (fun x=>x=yc) w (w.setCell ⟨yc,3,none⟩ (.int .i64 (wrap64 (Z.h+1)))):=(Stp.refl (fun x=>x=yc) w).setCell (p:=⟨yc,3,none⟩) (.inl rfl) _
     have hEg:=H.eo g0 rfl
     have rk:=s1.range (hw.range k k1) hEg.2
     rw [k2]at rk
     have v3:=H.c.frozen 3
     have z2:=H1.c.cell 2 _ rfl
     have a1:(0:Int)≤(k:Int):=by omega
     have a2:(k:Int) < (Z.l.length:Int):=by omega
     have hF:=Z9n H1 (i,p) (k:Int) hlen
     have hUP:Hid (upT Z.l (k:Int) Z.l.length=rmv Z.l i):=hup
     clear hup k2 k3
     go_enter Tryz.func162,Tryz.ntmps162
     go_wp2_with (first
      | (go_at_call 235;refine hfi.mono ?_;rintro e w1 ⟨rfl,rfl⟩;clear hfi)
      | (refine Z4i (by rfl) _ (by rfl) g0 (k * 67) (by rfl) (i,p) rk ?_)
      | (go_at_call 236;refine hF.mono ?_;rintro e w2 ⟨rfl,lv2,E2,H2,s2,g2⟩;clear hF))
     go_returns
     refine⟨by rw [hH.out.1];rfl,?_⟩
     rw [hH.out.2]
     have hZ:({ { Z with h:=wrap64 (Z.h+1)} with l:=(i,p)::upT Z.l (k:Int) Z.l.length} :CZ)=Z.hit i p:=by
      unfold CZ.hit;rw [hUP.out]
     have H3:Rx w2 yc y q (Z.hit i p) s lv2 E2 R:=by rw [← hZ];exact H2
     have st:Stp E w w2:=(s1.mono (fun x e=> .inl (e▸H.eg))).trans s2
     exact⟨s,lv2,E2,R,H3,st.mono (fun x e=> .inl (.inl e)),g2.pre s1.size,Grew.refl _ _ _⟩
   | none=>
     have e3:pos Z.l i= -1:=by unfold pos;rw [hq]
     rw [e3]at hfi;clear e3
     have hRm:=Zhb H ok ht
     have okr:=ok.room
     have hhe:Z.holdE i=Z.roomE:=by unfold CZ.holdE;rw [if_pos hi,hq]
     by_cases hE:Z.roomE=0
     · have hH:Hid (Z.holdE i=0∧Z.hold i=Z.room.miss i (Z.d.shown i)):=by
        refine⟨by rw [hhe,hE],?_⟩
        unfold CZ.hold;rw [if_pos hi,hq];simp only [hE,if_true]
       have hsw:Hid (Z.room.d.shown i=Z.d.shown i):=Zh9 hq
       have hlr:Z.room.l.length≤64:=by have:=okr.len;have:=okr.n2;omega
       have hup:=Ze0 Z.room.l Z.room.l.length (Nat.le_refl _)
       rw [List.take_length]at hup
       have hUP:Hid (upT Z.room.l (-1) Z.room.l.length=Z.room.l):=hup
       rw [hE]at hRm;clear hE hhe hup
       generalize Z.room=Y at *
       go_enter Tryz.func162,Tryz.ntmps162
       go_wp2_with (first
        | (go_at_call 235;refine hfi.mono ?_;rintro e w1 ⟨rfl,rfl⟩;clear hfi)
        | (go_at_call 237;refine hRm.mono ?_;rintro e w4 ⟨rfl,s4,lv4,E4,R4,H4,st4,gE4,gR4⟩
           have z4:=H4.c.cell 4 _ rfl
           have v4:=H4.c.frozen 4
           have H5:=H4.missed (wrap64 (Y.m+1))
           have z0:=H5.c.cell 0 _ rfl
           have hR:=Z7f H5.rd i hwi
           clear hRm y0 y1 y2 y3 y4 yS)
        | (go_at_call 55;refine hR.mono ?_;rintro e w6 ⟨rfl,b6⟩
           have H6:=H5.later b6
           clear hR)
        | (refine Z1p (by rfl) (by rfl) ?_;intro gb w7 a7 l7 r7 b7
           have H7:=H6.later b7)
        | (refine Z1j (by rfl) _ _ (by rfl) gb (by rfl) (Y.d.shown i) (by rfl) _ r7 ?_;intro w8 r8 s8
           have hgb:=H6.far gb a7
           have H8:=H7.step s8 (fun x hx e=>hgb (.inl (e▸hx))) (fun x hx e=>hgb (.inr (.inl (e▸hx)))) (fun e=>hgb (.inr (.inr e.symm)))
           have hF:=Z9n H8 (i,⟨Y.d.shown i,false,0⟩) (-1) hlr
           clear r7)
        | (refine Z1d (by rfl) _ (by rfl) gb (by rfl) (Y.d.shown i) r8.range ?_)
        | (refine Znp (by rfl) _ _ (by rfl) i (by rfl) (Y.d.shown i) (by rfl) ?_)
        | (go_at_call 236;refine hF.mono ?_;rintro e w9 ⟨rfl,lv9,E9,H9,s9,g9⟩;clear hF))
       go_returns
       refine⟨by rw [hH.out.1];rfl,?_⟩
       rw [hH.out.2]
       have hZ:({ { Y with m:=wrap64 (Y.m+1)} with l:=(i,⟨Y.d.shown i,false,0⟩)::upT Y.l (-1) Y.l.length} :CZ)=Y.miss i (Z.d.shown i):=by
        unfold CZ.miss;rw [hUP.out,hsw.out]
       have HF:Rx w9 yc y q (Y.miss i (Z.d.shown i)) s4 lv9 E9 R4:=by rw [← hZ];exact H9
       have k5:Stp (fun x=>x=yc) w4 (w4.setCell ⟨yc,4,none⟩ (.int .i64 (wrap64 (Y.m+1)))):=(Stp.refl (fun x=>x=yc) w4).setCell (p:=⟨yc,4,none⟩) (.inl rfl) _
       have k8:Stp (fun x=>x=yc∨x=gb) w4 w8:=(((k5.mono (F':=fun x=>x=yc∨x=gb) (fun x e=> .inl (.inl e))).trans (Stp.of_below (Z01 b6 b7 (Nat.le_refl _)) _)).next s8 (fun x e=> .inl (.inr e)))
       have hgb4:w4.heap.size≤gb:=Nat.le_trans k5.size (Nat.le_trans b6.size a7)
       have k9:Stp E4 w4 w9:=(k8.mono (F':=E4) (fun x e=>by
        rcases e with e | e
        · exact .inl (e▸H4.eg)
        · exact .inr (by omega))).trans s9
       exact RTo.mk' st4 ⟨s4,lv9,E9,R4,HF,k9.mono (fun x e=> .inl (.inl e)),g9.pre k8.size,Grew.refl _ _ _⟩ gE4 gR4
     · have hH:Hid (Z.holdE i=Z.roomE∧Z.hold i=Z.room):=by
        refine⟨hhe,?_⟩
        unfold CZ.hold;rw [if_pos hi,hq];simp only [hE,if_false]
       clear hhe
       go_enter Tryz.func162,Tryz.ntmps162
       go_wp2_with (first
        | (go_at_call 235;refine hfi.mono ?_;rintro e w1 ⟨rfl,rfl⟩;clear hfi)
        | (go_at_call 237;refine hRm.mono ?_;rintro e w4 ⟨rfl,h4⟩))
       go_returns
       exact⟨by rw [hH.out.1];rfl,by rw [hH.out.2];exact h4⟩
 · have e1:Z.holdE i=2:=by unfold CZ.holdE;rw [if_neg hi]
   have e2:Z.hold i=Z:=by unfold CZ.hold;rw [if_neg hi]
   rw [e1,e2];clear e1 e2
   by_cases h0:i < 0
   · go_enter Tryz.func162,Tryz.ntmps162
     go_wp2
     go_returns
     exact⟨rfl,H.here (Stp.refl _ _)⟩
   · have h1:(Z.d.n:Int)≤i:=by unfold DS.inn at hi;omega
     clear hi
     go_enter Tryz.func162,Tryz.ntmps162
     go_wp2
     go_returns
     exact⟨rfl,H.here (Stp.refl _ _)⟩
set_option maxRecDepth 100000 in
set_option maxHeartbeats 2000000 in
theorem Zjj {w:World} {yc y q:Nat} {Z:CZ} {s:PS} {lv:Value} {E R:Nat→Prop} {t:Nat} (H:Rx w yc y q Z s lv E R) (ok:Z.ok t) (ht:t≤10000) (i:Int) (hwi:(Lit.int .i64 i).wf=true):
 Calls Tryz.prog 112 #[.pointer (some ⟨yc,0,none⟩), .int .i64 i] w fun r w'=>r= .returned (.tuple #[.agg (Z.got i).cs.toArray, .int .i64 (Z.holdE i)])∧RTo yc y q E R (Z.hold i) w w':=by
 have hH:=fun u (hu:Below w.heap.size w u)=>Zjm (H.later hu) ok ht i hwi
 have fin:∀ (w1 w2 w3:World) (gb:Nat),Below w.heap.size w w1→w.heap.size≤gb→gb < w1.heap.size→RTo yc y q E R (Z.hold i) w1 w2→Stp (fun x=>x=gb) w2 w3→RTo yc y q E R (Z.hold i) w w3:=fun w1 w2 w3 gb b1 a1 l1 h2 s3=>by
  obtain⟨s',lv',E',R',h1,h2,h3,h4⟩:=h2
  have hgb:¬Rl q E' R' gb:=fun e=>by
   rcases e with e | e | e
   · rcases h3 gb e with e | e
     · exact H.far gb a1 (.inl e)
     · omega
   · rcases h4 gb e with e | e
     · exact H.far gb a1 (.inr (.inl e))
     · omega
   · exact H.far gb a1 (.inr (.inr e))
  have HX:=h1.step s3 (fun x hx e=>hgb (.inl (e▸hx))) (fun x hx e=>hgb (.inr (.inl (e▸hx)))) (fun e=>hgb (.inr (.inr e.symm)))
  have S2:Stp (Rl q E R) w w2:=(Stp.of_below b1 _).trans h2
  exact⟨s',lv',E',R',HX,S2.next s3 (fun x e=> .inr (by rw [e];exact a1)),Grew.trans (b:=w2) (h3.pre b1.size) (Grew.refl _ _ _) S2.size s3.size,Grew.trans (b:=w2) (h4.pre b1.size) (Grew.refl _ _ _) S2.size s3.size⟩
 by_cases he:Z.holdE i=0
 · obtain⟨p,rs,hl⟩:=Z56 he
   have hHE:Hid (Z.got i=p.b∧Z.holdE i=0):=⟨by unfold CZ.got;rw [if_pos he,Z3v hl],he⟩
   have h0l:(0:Int) < ((Z.hold i).l.length:Int):=by rw [hl];simp
   rw [he]at hH;clear he
   have hne:(Z.hold i).l≠ []:=by rw [hl];simp
   have h00:(Z.hold i).l.getD 0 e0=(i,p):=by rw [hl];rfl
   have h0n:0 < (Z.hold i).l.length:=by rw [hl];simp
   clear hl
   go_enter Tryz.func112,Tryz.ntmps112
   go_wp2_with (first
    | (refine Z1p (by rfl) (by rfl) ?_;intro gb w1 a1 l1 r1 b1)
    | (go_at_call 162;refine(hH _ b1).mono ?_;rintro e w2 ⟨rfl,hT⟩
       have hT2:=hT
       obtain⟨s2,lv2,E2,R2,H2,st2,gE2,gR2⟩:=hT2
       obtain⟨g0,cap,cur,elv,hw⟩:=H2.ow.row1 hne
       subst elv
       have z2:=H2.c.cell 2 _ rfl
       have rk:=hw.range 0 h0n
       rw [h00]at rk
       have rb:w2.rangeAt g0 1 p.b.cs:=by have:=Znh rk;simpa using this
       have r2:Cs w2 gb Blk.zero.cs:=r1.step st2 (H.far gb a1)
       clear hH)
    | (refine Z2o (by rfl) _ (by rfl) g0 1 (by rfl) p.b rb ?_)
    | (refine Z1j (by rfl) _ _ (by rfl) gb (by rfl) p.b (by rfl) _ r2 ?_;intro w3 r3 s3))
   refine bodyPost_ret (Zc4 Tryz.results112 rfl rfl r3) rfl ⟨by obtain⟨q1,q2⟩:=hHE.out;rw [q1,q2];rfl,fin w1 w2 w3 gb b1 a1 l1 hT s3⟩
 · have hHE:Hid (Z.got i=Blk.zero):=by show _=_;unfold CZ.got;rw [if_neg he]
   go_enter Tryz.func112,Tryz.ntmps112
   go_wp2_with (first
    | (refine Z1p (by rfl) (by rfl) ?_;intro gb w1 a1 l1 r1 b1)
    | (go_at_call 162;refine(hH _ b1).mono ?_;rintro e w2 ⟨rfl,hT⟩
       have hT2:=hT
       obtain⟨s2,lv2,E2,R2,H2,st2,gE2,gR2⟩:=hT2
       have r2:Cs w2 gb Blk.zero.cs:=r1.step st2 (H.far gb a1)
       clear hH)
    | (refine Z3q (by rfl) (by rfl) ?_)
    | (refine Z1j (by rfl) _ _ (by rfl) gb (by rfl) Blk.zero (by rfl) _ r2 ?_;intro w3 r3 s3))
   refine bodyPost_ret (Zc4 Tryz.results112 rfl rfl r3) rfl ⟨by rw [hHE.out];rfl,fin w1 w2 w3 gb b1 a1 l1 hT s3⟩
def Ra (u:World) (yc y q:Nat) (Z:CZ) (V:Nat→Prop):Prop:=∃ s lv E R,Rx u yc y q Z s lv E R∧∀ x,V x↔Rl q E R x
def Z26 (yc y q:Nat) (Z':CZ) (V:Nat→Prop) (w w':World):Prop:=∃ V',Ra w' yc y q Z' V'∧Stp V w w'∧Grew V V' w w'
section
variable {u u' : World} {yc y q gc g : Nat} {sp : Value} {Z Z' : CZ} {V U B : Nat → Prop} {t : Nat}
theorem Ra.lt (h:Ra u yc y q Z V):∀ x,V x→x < u.heap.size:=by
 obtain⟨s,lv,E,R,H,hV⟩:=h
 intro x hx
 exact Nat.lt_of_not_le (fun hl=>H.far x hl ((hV x).1 hx))
theorem Ra.step (h:Ra u yc y q Z V) (k:Stp B u u') (hB:∀ x,V x→¬B x):Ra u' yc y q Z V:=by
 obtain⟨s,lv,E,R,H,hV⟩:=h
 exact⟨s,lv,E,R,H.step k (fun x hx=>hB x ((hV x).2 (.inl hx))) (fun x hx=>hB x ((hV x).2 (.inr (.inl hx)))) (hB q ((hV q).2 (.inr (.inr rfl)))),hV⟩
theorem Ra.later (h:Ra u yc y q Z V) (k:Below u.heap.size u u'):Ra u' yc y q Z V:=h.step (Stp.of_below k (fun _=>False)) (fun _ _=>id)
theorem Zmo {E R:Nat→Prop} (h:RTo yc y q E R Z' u u') (hV:∀ x,V x↔Rl q E R x):Z26 yc y q Z' V u u':=by
 obtain⟨s',lv',E',R',h1,h2,h3,h4⟩:=h
 refine⟨Rl q E' R',⟨s',lv',E',R',h1,fun _=>Iff.rfl⟩,h2.mono (fun x hx=> .inl ((hV x).2 hx)),fun x hx=>?_⟩
 rcases hx with hx | hx | hx
 · rcases h3 x hx with e | e
   · exact .inl ((hV x).2 (.inl e))
   · exact .inr e
 · rcases h4 x hx with e | e
   · exact .inl ((hV x).2 (.inr (.inl e)))
   · exact .inr e
 · exact .inl ((hV x).2 (.inr (.inr hx)))
theorem Zpb (h:Ra u yc y q Z V) (ok:Z.ok t) (ht:t≤9000) (i:Int) (hi:(Lit.int .i64 i).wf=true):
 Calls Tryz.prog 112 #[.pointer (some ⟨yc,0,none⟩), .int .i64 i] u fun e u'=>e= .returned (.tuple #[.agg (Z.got i).cs.toArray, .int .i64 (Z.holdE i)])∧Z26 yc y q (Z.hold i) V u u':=by
 obtain⟨s,lv,E,R,H,hV⟩:=h
 exact(Zjj H ok (by omega) i hi).mono (fun e u' ⟨h1,h2⟩=>⟨h1,Zmo h2 hV⟩)
theorem Zmm (h:Ra u yc y q Z V) (i:Int) (hi:(Lit.int .i64 i).wf=true):
 Calls Tryz.prog 55 #[.pointer (some ⟨y,0,none⟩), .int .i64 i] u fun e u'=>e= .returned (.tuple #[.agg (Z.d.shown i).cs.toArray, .int .i64 (Z0l Z.d i)])∧Below u.heap.size u u':=by
 obtain⟨s,lv,E,R,H,hV⟩:=h
 exact Z7f H.rd i hi
theorem Ra.counts (h:Ra u yc y q Z V):u.cell? ⟨yc,3,none⟩=some (.int .i64 Z.h)∧u.cell? ⟨yc,4,none⟩=some (.int .i64 Z.m)∧∃ s,Z.p=some s∧u.cell? ⟨q,1,none⟩=some (.int .i64 s.used):=by
 obtain⟨s,lv,E,R,H,hV⟩:=h
 exact⟨H.c.cell 3 _ rfl,H.c.cell 4 _ rfl,s,H.hp,H.rw.c1⟩
end
section
variable {u u' : World} {gc g gp : Nat} {Z : CZ} {U : Nat → Prop} {t : Nat}
theorem Cx.sup {mp:Nat} {ov:Value} {f:Int→Option Value} {E F G:Nat→Prop} (H:Cx u gc g (.pointer (some ⟨gp,0,none⟩)) Z mp ov f E F G):∃ s,Z.p=some s∧Pw u gp s∧G gp:=by
 have h:=H.dd.s
 cases hp:Z.p with
 | none=>
   rw [hp]at h
   have h:Value.pointer (some ⟨gp,0,none⟩)=Value.pointer none:=h
   injection h with h;cases h
 | some s=>
   rw [hp]at h
   obtain⟨gp',e,h1,h2⟩:=h
   injection e with e;injection e with e;injection e with e
   subst e
   exact⟨s,rfl,h1,h2⟩
theorem Zpx (h:Ca u gc g (.pointer (some ⟨gp,0,none⟩)) Z U) {s:PS} (hs:Z.p=some s):
 Calls Tryz.prog 54 #[.pointer (some ⟨gp,0,none⟩)] u fun e u'=>e= .returned (.int .i64 s.used)∧Below u.heap.size u u':=by
 obtain⟨mp,ov,f,E,F,G,H,hU⟩:=h
 obtain⟨s',hs',hw,hG⟩:=Cx.sup H
 have e:s'=s:=by rw [hs]at hs';injection hs' with hs';exact hs'.symm
 subst e
 have c3:=hw.c3
 go_enter Tryz.func54,Tryz.ntmps54
 go_wp2
 go_returns
 exact⟨rfl,Below.refl _ _⟩
end
end Go.Proofs.YtogdffonjhghcaaGreatDoor
