/-
  Texts of my own, joined: no statement is proved here.
-/
import Derived.Deep.DeepCutAuto
import Derived.Shelf.SlMaps.Clone
import Derived.Test.YtogdffonjhghcaaGreatDoorJbe
set_option linter.unusedSimpArgs false
set_option linter.unusedVariables false
namespace Go.Proofs.YtogdffonjhghcaaGreatDoor
open Go.ChangeShapes Go.WideShapes Go.ChangeAt Go.RowKit Go.Shelf
set_option maxRecDepth 100000 in
set_option maxHeartbeats 2000000 in
theorem Zi8 {w:World} {v:Value} {l:List Int} (h:OwV w v l) (hne:l≠ []) (hwf:∀ x ∈ l,wfi x) (hl:l.length≤100000):
 Calls Tryz.prog 95 #[v] w fun e w'=>∃ v',e= .returned v'∧OwV w' v' l∧New w.heap.size v'∧Below w.heap.size w w':=by
 obtain⟨g,cap,cur,rfl,hr⟩:=h.row1 hne
 have qnI:∀ (w:World) (a:Option Addr) (n c n' c':Nat),(binOp .eql 54 (.slice a n c) (.slice none n' c')).run Tryz.prog w= .ok (.bool a.isNone) w:=fun w a n c n' c'=>Lib.run_eql_slice_nil w _ _ a n c n' c' elI.und
 have q0:(w.alloc (.cells #[] 3)).ownsRow 0 3 1 (.slice (some ⟨w.heap.size,0,none⟩) 0 0) 0 []:=World.ownsRow_made w #[] 0 (Nat.zero_le _) (Nat.zero_le _) rfl
 have hcs':∀ ad,some (⟨g,0,none⟩:Addr)=some ad→∀ j u,(l.map (Value.int .i64))[j]? =some u→(w.alloc (.cells #[] 3)).cell? (ad.add j)=some u:=fun ad e j u hu=>by
  injection e with e;subst e
  have:=hr.cells j u hu
  rw [Addr.add_lit]
  rw [((Below.refl _ w).alloc (Nat.le_refl _) (.cells #[] 3)).cell (World.block_lt_of_cell? w _ this)];exact this
 go_enter Tryz.func95,Tryz.ntmps95
 go_wp2_with (first
  | (refine Z2m elI w.heap.size rfl _ _ (by rfl) (by rfl) q0 (Zoo w) (some ⟨g,0,none⟩) cap (l.map (Value.int .i64)) (by rfl) (by simp) (fun e=>by cases e) hcs' (fun u hu=>by obtain⟨x,_,rfl⟩:=List.mem_map.1 hu;rfl) (by omega) (by simp) ?_;intro v' w' hA))
 go_returns
 obtain⟨h1,h2,h3,h4,h5⟩:=hA
 rw [Nat.zero_add,List.nil_append]at h1
 have k0:Stp (fun _=>False) w (w.alloc (.cells #[] 3)):=Stp.of_alloc _ _ _
 exact⟨v',rfl,h1,h2,(k0.next h4 (F':=fun x=>some w.heap.size=some x) (fun x e=> .inr (by injection e with e;omega))).below (Nat.le_refl _) (fun x e=>e.elim)⟩
theorem Z9d {w:World} {b:Nat} {f:Int→Option Value} (h:MpI Tryz.prog 3 w b f):
 Calls Tryz.prog 154 #[.map (some b)] w fun e w'=>∃ b',e= .returned (.map (some b'))∧w.heap.size≤b'∧MpI Tryz.prog 3 w' b' f∧Below w.heap.size w w':=by
 obtain⟨D,h1,h2⟩:=h
 have:=AnyW.maps_Clone_owns cloneM 3 Z1t b 4096 D w h1
 refine Calls.mono this ?_
 rintro e w' ⟨rfl,k1,k2,k3⟩
 exact⟨_,rfl,Nat.le_refl _,⟨D,k1,h2⟩,k3⟩
section
variable {ops : Array Oper} {o : Oper} {a : Act} {w : World} {K : Act → World → Prop} {Q : Exit → Act → World → Prop} {R : Prop} {S : World → Prop}
theorem Zdv (T:Nat) (hgd:o.guard=none) (ho:o.op= .makeMap T none)
 (h:∀ b w',w.heap.size≤b→MpI Tryz.prog 3 w' b (fun _=>none)→Below w.heap.size w w'→K (a.put o.dst (.map (some b))) w'):if Region.wanted o (yielded ops a.tmps)=true then Oper.wp Tryz.prog o a w K Q else R:=by
 have hw:Region.wanted o (yielded ops a.tmps)=true:=by simp [Region.wanted,hgd]
 rw [if_pos hw]
 have h0:(Instr.makeMap T none).run Tryz.prog w= .ok (.map (some w.heap.size)) (w.alloc (.map #[] 0)):=rfl
 have hr:(execOp a.eval o).run Tryz.prog w= .ok (.value (.map (some w.heap.size))) (w.alloc (.map #[] 0)):=by simp [execOp,ho,h0]
 unfold Oper.wp
 rw [hr]
 exact h w.heap.size _ (Nat.le_refl _) (MpI.made w _ _) ((Below.refl _ _).alloc (Nat.le_refl _) _)
theorem Z5d (T:Nat) (hgd:o.guard=none) (x:Operand) (ho:o.op= .box T x) (cs:List Value) (hx:a.eval x= .agg cs.toArray) (h1:∀ v ∈ cs,v.oneCell'=true)
 (h:∀ g w',w.heap.size≤g→g < w'.heap.size→Cs w' g cs→Below w.heap.size w w'→K (a.put o.dst (.pointer (some ⟨g,0,none⟩))) w'):if Region.wanted o (yielded ops a.tmps)=true then Oper.wp Tryz.prog o a w K Q else R:=by
 have hw:Region.wanted o (yielded ops a.tmps)=true:=by simp [Region.wanted,hgd]
 rw [if_pos hw]
 have h0:(Instr.box T (.agg cs.toArray)).run Tryz.prog w= .ok (.pointer (some ⟨w.heap.size,0,none⟩)) (w.alloc (.cells cs.toArray T)):=by
  simp [Instr.box,newVar,Value.cells,go_sem]
 have hr:(execOp a.eval o).run Tryz.prog w= .ok (.value (.pointer (some ⟨w.heap.size,0,none⟩))) (w.alloc (.cells cs.toArray T)):=by simp [execOp,ho,hx,h0]
 unfold Oper.wp
 rw [hr]
 exact h w.heap.size _ (Nat.le_refl _) (by simp) (Cs.made w cs T h1) ((Below.refl _ _).alloc (Nat.le_refl _) _)
theorem Zo3 (x:Int) (a b:Nat) (w:World):(Instr.build 189 #[(0, .int .i64 x),(1, .map (some a)),(2, .map (some b))]).run Tryz.prog w= .ok (.agg [Value.int .i64 x, .map (some a), .map (some b)].toArray) w:=by kernel_rfl
theorem Zbu (hw:Region.wanted o (yielded ops a.tmps)=true) (x y z:Operand) (ho:o.op= .build 189 #[(0,x),(1,y),(2,z)]) (l:Int) (c d:Nat) (hx:a.eval x= .int .i64 l) (hy:a.eval y= .map (some c)) (hz:a.eval z= .map (some d)):
 YieldsIf Tryz.prog ops S o (.agg [Value.int .i64 l, .map (some c), .map (some d)].toArray) a:=by
 refine Or.inl ⟨hw,fun w _=>?_⟩
 simp [execOp,ho,hx,hy,hz,Zo3]
end
structure CpI (w W wr:World) (mw r mq mv gq:Nat) (Z:GZ) (f fw:Int→Option Value) (left:Int→Bool) (cnt:Nat) (fv:Int→Option Value):Prop where
 rg:RgI Tryz.prog 3 wr mw r fw left cnt
 mm:MpI Tryz.prog 3 wr mv fv
 pm:MpI Tryz.prog 3 wr mq f
 c:Cs wr gq [.int .i64 Z.last, .map (some mq), .map (some mv)]
 yes:∀ s,(fw s).isSome=true→left s=false→∃ v',fv s=some v'∧OwV wr v' (wts Z.l s)∧∀ x,v'.ownBlock=some x→W.heap.size≤x
 no:∀ s,((fw s).isSome=false∨left s=true)→fv s=none
 ap:∀ s s' v v' x,fv s=some v→fv s'=some v'→v.ownBlock=some x→v'.ownBlock=some x→s=s'
 b:Below w.heap.size w wr
 sz:W.heap.size≤wr.heap.size
theorem CpI.some {w W wr:World} {mw r mq mv gq:Nat} {Z:GZ} {f fw:Int→Option Value} {left:Int→Bool} {cnt:Nat} {fv:Int→Option Value} (h:CpI w W wr mw r mq mv gq Z f fw left cnt fv) {s:Int} {v:Value} (hv:fv s=Option.some v):(fw s).isSome=true∧OwV wr v (wts Z.l s)∧∀ x,v.ownBlock=Option.some x→W.heap.size≤x:=by
 cases h1:(fw s).isSome with
 | false=>rw [h.no s (.inl h1)]at hv;cases hv
 | true=>
   cases h2:left s with
   | true=>rw [h.no s (.inr h2)]at hv;cases hv
   | false=>
     obtain⟨v',e,k1,k2⟩:=h.yes s h1 h2
     rw [hv]at e;injection e with e;subst e
     exact⟨rfl,k1,k2⟩
set_option maxRecDepth 100000 in
set_option maxHeartbeats 4000000 in
theorem Zlj {w:World} {g mp mw:Nat} {f fw:Int→Option Value} {Z:GZ} {E F:Nat→Prop} (H:Gr w g mp mw f fw Z E F):
 Calls Tryz.prog 98 #[.pointer (some ⟨g,0,none⟩)] w fun e w'=>∃ gq F',e= .returned (.pointer (some ⟨gq,0,none⟩))∧Gh w' gq Z E F'∧(∀ x,F' x→w.heap.size≤x)∧Below w.heap.size w w':=by
 obtain⟨z0,z1,z2⟩:=H.cells
 go_enter Tryz.func98,Tryz.ntmps98
 go_upto_region 3 with fail
 go_cut [3] (fun u wx=>∃ gq mq mv,u= .pointer (some ⟨gq,0,none⟩)∧Cs wx gq [.int .i64 Z.last, .map (some mq), .map (some mv)]∧MpI Tryz.prog 3 wx mq f∧MpI Tryz.prog 3 wx mv (fun _=>none)∧w.heap.size≤gq∧w.heap.size≤mq∧w.heap.size≤mv∧mq≠mv∧Below w.heap.size w wx)
 case first=>
  refine wp_region_held_drew (S:=fun u=>Below w.heap.size w u) (by kernel_rfl) (Below.refl _ _).drew (fun hHeld=>?_)
  refine tl 0 (.pointer (some ⟨g,0,none⟩)) rfl ?_
  try simp only [z]
  refine tl 1 (.pointer (some ⟨g,0,none⟩)) rfl ?_
  try simp only [z]
  refine tl 2 (.pointer (some ⟨g,0,none⟩)) rfl ?_
  try simp only [z]
  refine tl 3 (.int .i64 Z.last) rfl ?_ (fun u hu=>by have x1:=(H.later hu).cells.1;go_simp)
  try simp only [z]
  refine tl 4 (.pointer (some ⟨g,0,none⟩)) rfl ?_
  try simp only [z]
  refine tl 5 (.pointer (some ⟨g,0,none⟩)) rfl ?_
  try simp only [z]
  refine tl 6 (.pointer (some ⟨g,1,none⟩)) rfl ?_
  try simp only [z]
  refine tl 7 (.map (some mp)) rfl ?_ (fun u hu=>by have x1:=(H.later hu).cells.2.1;go_simp)
  try simp only [z]
  refine wpAnyH_ready (rs:= [8,9]) (by kernel_rfl) (by simp) ?_
  refine(AllReadyH.cons (o:=⟨some 16, .call { callee:=Callee.value (.func 154),args:=#[.tmp 15],argTypes:=#[186]},186,_,#[⟨7, .data⟩],none⟩) rfl (fun K hK=>?_) (AllReadyH.cons (o:=⟨some 17, .makeMap 187 none,187,_,#[],none⟩) rfl (fun K hK=>?_) AllReadyH.nil))
  · skip
    go_simp
    refine(Z9d (H.later hHeld).pm).mono ?_
    rintro e w8 ⟨mq,rfl,e8,p8,b8⟩
    try go_wp2_with fail
    have l8:=p8.lt
    have zH8:=hHeld.size
    refine hK.out _ _ (Z01 hHeld b8 (Nat.le_refl _)) (fun hHeld=>?_)
    clear hK K
    have zz8:=b8.size
    try (replace p9:=p9.later b8)
    try simp only [z]
    refine rd 9 rfl (fun K hK=>?_)
    have zH9:=hHeld.size
    refine Zdv 187 rfl (by rfl) ?_
    intro mv w9 e9 p9 b9
    have l9:=p9.lt
    refine hK.out _ _ (Z01 hHeld b9 (Nat.le_refl _)) (fun hHeld=>?_)
    clear hK K
    have zz9:=b9.size
    try (replace p8:=p8.later b9)
    try simp only [z]
    refine tm 10 (.agg [Value.int .i64 Z.last, .map (some mq), .map (some mv)].toArray) rfl
     (Zbu (by rfl) _ _ _ (by rfl) Z.last mq mv (by rfl) (by rfl) (by rfl)) ?_
    try simp only [z]
    refine rd 11 rfl (fun K hK=>?_)
    have zH11:=hHeld.size
    refine Z5d 189 rfl _ (by rfl) [Value.int .i64 Z.last, .map (some mq), .map (some mv)] (by rfl) (by simp [Value.oneCell']) ?_
    intro gq w11 e11 l11 c11 b11
    refine hK.out _ _ (Z01 hHeld b11 (Nat.le_refl _)) (fun hHeld=>?_)
    clear hK K
    replace p8:=p8.later b11
    replace p9:=p9.later b11
    try simp only [z]
    refine tl 12 (.pointer (some ⟨gq,0,none⟩)) rfl ?_
    try simp only [z]
    refine wpAnyH_done (by kernel_rfl) ?_ _
    go_wp2_with fail
    go_meet
    exact⟨gq,mq,mv,rfl,c11,p8,p9,by omega,by omega,by omega,by omega,hHeld⟩
  · skip
    have zH9:=hHeld.size
    refine Zdv 187 rfl (by rfl) ?_
    intro mv w9 e9 p9 b9
    have l9:=p9.lt
    refine hK.out _ _ (Z01 hHeld b9 (Nat.le_refl _)) (fun hHeld=>?_)
    clear hK K
    have zz9:=b9.size
    try (replace p8:=p8.later b9)
    try simp only [z]
    refine rd 8 rfl (fun K hK=>?_)
    go_simp
    refine(Z9d (H.later hHeld).pm).mono ?_
    rintro e w8 ⟨mq,rfl,e8,p8,b8⟩
    try go_wp2_with fail
    have l8:=p8.lt
    have zH8:=hHeld.size
    refine hK.out _ _ (Z01 hHeld b8 (Nat.le_refl _)) (fun hHeld=>?_)
    clear hK K
    have zz8:=b8.size
    try (replace p9:=p9.later b8)
    try simp only [z]
    refine tm 10 (.agg [Value.int .i64 Z.last, .map (some mq), .map (some mv)].toArray) rfl
     (Zbu (by rfl) _ _ _ (by rfl) Z.last mq mv (by rfl) (by rfl) (by rfl)) ?_
    try simp only [z]
    refine rd 11 rfl (fun K hK=>?_)
    have zH11:=hHeld.size
    refine Z5d 189 rfl _ (by rfl) [Value.int .i64 Z.last, .map (some mq), .map (some mv)] (by rfl) (by simp [Value.oneCell']) ?_
    intro gq w11 e11 l11 c11 b11
    refine hK.out _ _ (Z01 hHeld b11 (Nat.le_refl _)) (fun hHeld=>?_)
    clear hK K
    replace p8:=p8.later b11
    replace p9:=p9.later b11
    try simp only [z]
    refine tl 12 (.pointer (some ⟨gq,0,none⟩)) rfl ?_
    try simp only [z]
    refine wpAnyH_done (by kernel_rfl) ?_ _
    go_wp2_with fail
    go_meet
    exact⟨gq,mq,mv,rfl,c11,p8,p9,by omega,by omega,by omega,by omega,hHeld⟩
 case rest=>
  obtain⟨gq,mq,mv,rfl,cq,pq,vq,lg,lq,lv,nqv,B1⟩:=hcut
  have H1:=H.later B1
  have y2:=H1.cells.2.2
  have tok:True:=trivial
  clear z0 z1 z2
  go_wp2_with (first
   | (clear tok;refine Z51 (by rfl) _ (by rfl) (by rfl) (Z6h H1.wm uWm) ?_;rintro w2 ⟨cnt,hrg,hk2,hz2⟩))
  go_frame
  obtain⟨r,hr⟩:∃ r,r=wc.heap.size:=⟨_,rfl⟩
  rw [← hr]at hrg ⊢
  have b2:Below wc.heap.size wc w2:=hk2.below (Nat.le_refl _) (fun _ e=>e.elim)
  have lgq:=cq.lt
  have lmq:=pq.lt
  have lmv:=vq.lt
  have B2:=Z01 B1 b2 (Nat.le_refl _)
  have start:CpI w w2 w2 mw r mq mv gq Z f fw (fun k=>(fw k).isSome) cnt (fun _=>none):=
   ⟨hrg,vq.later b2,pq.later b2,cq.later b2,(fun s h1 h2=>by rw [h1]at h2;cases h2),fun _ _=>rfl,(fun s s' v v' x h=>by cases h),B2,Nat.le_refl _⟩
  have hr2:r < w2.heap.size:=by omega
  have hwr:w.heap.size≤r:=by have:=B1.size;omega
  have hrn:r≠gq∧r≠mq∧r≠mv:=⟨by omega,by omega,by omega⟩
  have hl2:gq < w2.heap.size∧mq < w2.heap.size∧mv < w2.heap.size:=⟨by omega,by omega,by omega⟩
  clear hrg hz2 hk2 hr y2 b2 cq pq vq lgq lmq lmv
  go_loopw [4,5] (fun _ _ wr=>∃ left cnt fv,CpI w w2 wr mw r mq mv gq Z f fw left cnt fv) (fun _ _ wr=>wr.rangeLeft mw r)
  case atStart=>exact⟨_,_,_,start⟩
  case round=>
   clear start
   obtain⟨left,cnt,fv,I⟩:=hrel
   have hmwlt:mw < w.heap.size:=H.wm.lt
   have t1:True:=trivial
   go_wp2_with (first
    | (clear t1;refine Z67 (by rfl) _ (by rfl) (by rfl) I.rg (fun hl=>?_) (fun k v w3 cnt3 hwf hlk hfk3 hrg3 hc3 hs3 hz3 hen=>?_)
       rotate_left
       have hzz:Hid (w3.heap.size=wr.heap.size):=hz3
       have hne:wts Z.l k≠ []:=fun e=>by rw [H.wn k e]at hfk3;cases hfk3
       have B3:Below w.heap.size w w3:=((Stp.of_below I.b (fun _=>False)).next hs3 (fun x e=> .inr (by omega))).below (Nat.le_refl _) (fun x e=>e.elim)
       obtain⟨v1,e1,o1,_⟩:=H.ws k hne
       have ev:v1=v:=by rw [hfk3]at e1;injection e1 with e1;exact e1.symm
       subst ev
       have o3:=o1.later B3
       obtain⟨va,vn,vc,rfl⟩:=o3.shape
       clear hz3))
   · have c3:=I.c.step hs3 (fun e=>hrn.1 e.symm)
     have mm3:=I.mm.step hs3 (fun e=>hrn.2.2 e.symm)
     have pm3:=I.pm.step hs3 (fun e=>hrn.2.1 e.symm)
     have hfew:=H.ok.fewW k
     have hwl:=Z4l Z.l k
     have hwfs:∀ x ∈ wts Z.l k,wfi x:=fun x hx=>by
      obtain⟨p,q1,q2,_⟩:=Z2b.1 hx
      rw [← q2];exact(H.ok.wfp q1).i
     have hkv:∀ s,(fv s).isSome→0≤s∧s < 2048:=fun s hs=>by
      cases hv:fv s with
      | none=>rw [hv]at hs;cases hs
      | some v=>exact H.keysW s (I.some hv).1
     have hkw:wfi k:=hwf
     have hk0:fv k=none:=I.no k (.inr hlk)
     have oth:∀ s v',fv s=some v'→OwV w3 v' (wts Z.l s)∧∀ x,v'.ownBlock=some x→w2.heap.size≤x∧x < wr.heap.size:=fun s v' hv=>by
      obtain⟨_,k2,k3⟩:=I.some hv
      exact⟨k2.step hs3 (fun x hx e=>by have:=k3 x hx;omega),fun x hx=>⟨k3 x hx,k2.lt hx⟩⟩
     have zz:=hzz.out
     have zz':Hid (w3.heap.size=wr.heap.size):=zz
     have hsz:=I.sz
     have hnl:(wts Z.l k).length≤100000:=by rw [hwl];omega
     clear zz hwl hzz o1 e1 hfk3
     refine Z0n (S:=fun u=>Below w3.heap.size w3 u) _ _ (by simp only [List.pop_toArray,List.dropLast_cons_cons,List.dropLast_singleton];rfl) (by simp only [List.back?_toArray,List.getLast?_cons_cons,List.getLast?_singleton];rfl) (by kernel_rfl) (by kernel_rfl) (Below.refl _ _).drew (fun hHeld=>?_)
     refine tl 0 (.pointer (some ⟨gq,0,none⟩)) rfl ?_
     try simp only [z]
     refine tl 1 (.pointer (some ⟨gq,0,none⟩)) rfl ?_
     try simp only [z]
     refine tl 2 (.pointer (some ⟨gq,2,none⟩)) rfl ?_
     try simp only [z]
     refine tl 3 (.map (some mv)) rfl ?_ (fun u hu=>by have x1:=(c3.later hu).cell 2 _ rfl;go_simp)
     try simp only [z]
     refine tl 4 (.int .i64 k) rfl ?_
     try simp only [z]
     refine tl 5 (.slice va vn vc) rfl ?_
     try simp only [z]
     refine rd 6 rfl (fun K hK=>?_)
     go_simp
     refine(Zi8 (o3.later hHeld) hne hwfs hnl).mono ?_
     rintro e w8 ⟨v8,rfl,o8,n8,b8⟩
     try go_wp2_with fail
     have zH:=hHeld.size
     refine hK.out _ _ (Z01 hHeld b8 (Nat.le_refl _)) (fun hHeld=>?_)
     clear hK K
     try simp only [z]
     refine wpAnyH_done (by kernel_rfl) ?_ _
     show wpList _ _ _ [_] _ _
     have B8:Below w3.heap.size w3 w8:=hHeld
     refine Z3j 187 54 uWm (by rfl) _ _ _ (by rfl) mv fv (by rfl) k (by rfl) v8 (by rfl) (mm3.later B8) hkv hkw ?_
     intro w10 m10 s10
     have zz:=zz'.out
     have zB8:=B8.size
     have z10:=s10.size
     have lmv:mv < w2.heap.size:=hl2.2.2
     have hmv8:v8.ownBlock≠some mv:=fun e=>by have:=n8 mv e;omega
     have B10:Below w.heap.size w w10:=((Stp.of_below (Z01 B3 B8 (Nat.le_refl _)) (fun _=>False)).next s10 (fun x e=> .inr (by omega))).below (Nat.le_refl _) (fun x e=>e.elim)
     have rg10:=(hrg3.step (Stp.of_below B8 (fun _=>False)) id id).step s10 (fun e=>by omega) (fun e=>hrn.2.2 e)
     have I10:CpI w w2 w10 mw r mq mv gq Z f fw (fun x=>left x&& !decide (x=k)) cnt3 (upd fv k (some v8)):=by
      refine⟨rg10,m10,(pm3.later B8).step s10 nqv,(c3.later B8).step s10 (fun e=>(c3.later B8).notMap (mm3.later B8) e),fun s h1 h2=>?_,fun s h1=>?_,fun s s' v v' x h1 h2 h3 h4=>?_,B10,by omega⟩
      · by_cases e:s=k
        · subst e
          refine⟨v8,by simp [upd],o8.step s10 (fun x hx e=>by have:=n8 x hx;omega),fun x hx=>by have:=n8 x hx;omega⟩
        · have h3:left s=false:=by simpa [e]using h2
          obtain⟨v',k1,_,_⟩:=I.yes s h1 h3
          obtain⟨k2,k3⟩:=oth s v' k1
          exact⟨v',by simp [upd,e,k1],(k2.later B8).step s10 (fun x hx e=>by have:=(k3 x hx).1;omega),fun x hx=>(k3 x hx).1⟩
      · have e:s≠k:=fun e=>by
         subst e
         rcases h1 with h1 | h1
         · have hk2:=H.wm
           obtain⟨v1,e1,_⟩:=H.ws s hne
           rw [e1]at h1;cases h1
         · simp at h1
        have h2:(fw s).isSome=false∨left s=true:=h1.imp id (fun h=>by simpa [e]using h)
        simp [upd,e,I.no s h2]
      · have key:∀ s v,upd fv k (some v8) s=some v→s=k∧v=v8∨s≠k∧fv s=some v:=fun s v h=>by
         by_cases e:s=k
         · left;refine⟨e,?_⟩;subst e;simp [upd]at h;exact h.symm
         · right;exact⟨e,by simpa [upd,e]using h⟩
        rcases key s v h1 with⟨e1,e2⟩ | ⟨e1,e2⟩<;>rcases key s' v' h2 with⟨e3,e4⟩ | ⟨e3,e4⟩
        · rw [e1,e3]
        · subst e2;have:=n8 x h3;have:=((oth s' v' e4).2 x h4).2;omega
        · subst e4;have:=n8 x h4;have:=((oth s v e2).2 x h3).2;omega
        · exact I.ap s s' v v' x e2 e4 h3 h4
     clear hHeld
     simp only [Act.put]
     go_wp2_with fail
     go_roundw
     case rel=>exact⟨_,_,_,I10⟩
     case measure=>rw [rg10.left_eq,I.rg.left_eq];exact hc3
   · go_returns
     have hfv:∀ s,(fw s).isSome=true→∃ v',fv s=some v'∧OwV wr v' (wts Z.l s)∧∀ x,v'.ownBlock=some x→w2.heap.size≤x:=fun s hs=>I.yes s hs (hl s)
     refine⟨gq,(fun x=>x=gq∨x=mq∨x=mv∨∃ s v,fv s=some v∧v.ownBlock=some x),rfl,⟨mq,mv,f,fv,⟨I.c,I.pm,I.mm,fun i p hp=>?_,H.pn,fun s hs=>?_,fun s hs=>?_,I.ap, .inl rfl, .inr (.inl rfl), .inr (.inr (.inl rfl)),nqv,fun x hx=>?_,fun x hx=>?_,fun x hx hf=>?_,H.ok⟩⟩,fun x hx=>?_,I.b⟩
     · obtain⟨d,n,h1,h2⟩:=(H.later I.b).ps i p hp
       exact⟨d,n,h1,h2⟩
     · obtain⟨v1,e1,_⟩:=H.ws s hs
       obtain⟨v',k1,k2,k3⟩:=hfv s (by rw [e1];rfl)
       exact⟨v',k1,k2,fun x hx=>⟨.inr (.inr (.inr ⟨s,v',k1,hx⟩)),by have:=k3 x hx;omega⟩⟩
     · exact I.no s (.inl (by rw [H.wn s hs];rfl))
     · rcases hx with rfl | rfl | rfl | ⟨s,v,h1,h2⟩
       · exact I.c.lt
       · exact I.pm.lt
       · exact I.mm.lt
       · exact(I.some h1).2.1.lt h2
     · exact Nat.lt_of_lt_of_le (H.el x hx) I.b.size
     · have:=H.el x hx
       rcases hf with rfl | rfl | rfl | ⟨s,v,h1,h2⟩
       · omega
       · omega
       · omega
       · have:=(I.some h1).2.2 x h2;have:=B2.size;omega
     · rcases hx with rfl | rfl | rfl | ⟨s,v,h1,h2⟩
       · exact lg
       · exact lq
       · exact lv
       · have:=(I.some h1).2.2 x h2;have:=B2.size;omega
end Go.Proofs.YtogdffonjhghcaaGreatDoor
