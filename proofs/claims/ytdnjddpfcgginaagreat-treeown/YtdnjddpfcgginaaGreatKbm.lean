/-
  Texts of my own, joined: no statement is proved here.
-/
import Derived.Deep.CutBlock
import Derived.Deep.DeepCutAuto
import Derived.Test.YtdnjddpfcgginaaGreatKbl
set_option linter.unusedSimpArgs false
set_option linter.unusedVariables false
namespace Go.Proofs.YtdnjddpfcgginaaGreat
open Go.ChangeShapes Go.WideShapes Go.ChangeAt Go.RowKit
set_option maxRecDepth 100000
section
variable {ops : Array Oper} {rest : List Oper} {o : Oper} {a : Act} {w : World} {K : Act → World → Prop} {Q : Exit → Act → World → Prop} {R : Prop}
theorem Zbn (hgd:o.guard=none) (m:Operand) (ho:o.op= .call { callee:= .builtin .len,args:=#[m],argTypes:=#[68]}) (b:Nat) (f:Int→Option Value) (hm:a.eval m= .map (some b)) (hM:MpI Tryz.prog 3 w b f)
 (h:∀ n:Int,K (a.put o.dst (.int .i64 n)) w):if Region.wanted o (yielded ops a.tmps)=true then Oper.wp Tryz.prog o a w K Q else R:=by
 have hw:Region.wanted o (yielded ops a.tmps)=true:=by simp [Region.wanted,hgd]
 rw [if_pos hw]
 obtain⟨D,h1,_⟩:=hM
 have hr:=h1.len uMn o.type
 have hr2:(execOp a.eval o).run Tryz.prog w= .ok (.value (.int .i64 (Maps.size D:Int))) w:=by simp [execOp,ho,hm,resolve,invoke,builtin,hr]
 unfold Oper.wp
 rw [hr2]
 exact h _
theorem Z8e (hgd:o.guard=none) (x:Operand) (ho:o.op= .makeMap 68 (some x)) (n:Int) (hx:a.eval x= .int .i64 n)
 (h:∀ b w',w.heap.size≤b→MpI Tryz.prog 3 w' b (fun _=>none)→Below w.heap.size w w'→K (a.put o.dst (.map (some b))) w'):if Region.wanted o (yielded ops a.tmps)=true then Oper.wp Tryz.prog o a w K Q else R:=by
 have hw:Region.wanted o (yielded ops a.tmps)=true:=by simp [Region.wanted,hgd]
 rw [if_pos hw]
 have h0:(Instr.makeMap 68 (some (.int .i64 n))).run Tryz.prog w= .ok (.map (some w.heap.size)) (w.alloc (.map #[] 0)):=by kernel_rfl
 have hr:(execOp a.eval o).run Tryz.prog w= .ok (.value (.map (some w.heap.size))) (w.alloc (.map #[] 0)):=by simp [execOp,ho,hx,h0]
 unfold Oper.wp
 rw [hr]
 exact h w.heap.size _ (Nat.le_refl _) (MpI.made w _ _) ((Below.refl _ _).alloc (Nat.le_refl _) _)
theorem Z5e (T:Nat) (hgd:o.guard=none) (x:Operand) (ho:o.op= .box T x) (cs:List Value) (hx:a.eval x= .agg cs.toArray) (h1:∀ v ∈ cs,v.oneCell'=true)
 (h:∀ g w',w.heap.size≤g→g < w'.heap.size→Cs w' g cs→Below w.heap.size w w'→K (a.put o.dst (.pointer (some ⟨g,0,none⟩))) w'):if Region.wanted o (yielded ops a.tmps)=true then Oper.wp Tryz.prog o a w K Q else R:=by
 have hw:Region.wanted o (yielded ops a.tmps)=true:=by simp [Region.wanted,hgd]
 rw [if_pos hw]
 have h0:(Instr.box T (.agg cs.toArray)).run Tryz.prog w= .ok (.pointer (some ⟨w.heap.size,0,none⟩)) (w.alloc (.cells cs.toArray T)):=by
  simp [Instr.box,newVar,Value.cells,go_sem]
 have hr:(execOp a.eval o).run Tryz.prog w= .ok (.value (.pointer (some ⟨w.heap.size,0,none⟩))) (w.alloc (.cells cs.toArray T)):=by simp [execOp,ho,hx,h0]
 unfold Oper.wp
 rw [hr]
 exact h w.heap.size _ (Nat.le_refl _) (by simp) (Cs.made w cs T h1) ((Below.refl _ _).alloc (Nat.le_refl _) _)
theorem Zc4 {b r:Nat} {f:Int→Option Value} {left:Int→Bool} {cnt:Nat} (hw:Region.wanted o (yielded ops a.tmps)=true) (x:Operand) (ho:o.op=Op.next x false)
 (hx:a.eval x= .pointer (some ⟨r,0,none⟩)) (h:RgI Tryz.prog 3 w b r f left cnt) (hsh:∀ k v,f k=some v→∃ g,v= .pointer (some ⟨g,0,none⟩))
 (h0:(∀ k,left k=false)→wpList Tryz.prog ops Q rest (a.put o.dst (.tuple #[.bool false])) w)
 (h1 :∀ k g w' cnt',(Lit.int .i64 k).wf=true→left k=true→f k=some (.pointer (some ⟨g,0,none⟩))→RgI Tryz.prog 3 w' b r f (fun x=>left x&& !decide (x=k)) cnt'→cnt' < cnt→Stp (fun x=>x=r) w w'→w'.heap.size=w.heap.size→
   (Instr.entry (.pointer (some ⟨r,0,none⟩))).run Tryz.prog w'= .ok (.tuple #[.int .i64 k, .pointer (some ⟨g,0,none⟩)]) w'→wpList Tryz.prog ops Q rest (a.put o.dst (.tuple #[.bool true, .int .i64 k, .pointer (some ⟨g,0,none⟩)])) w'):wpList Tryz.prog ops Q (o::rest) a w:=
 Zc3 hw x ho hx h h0 (fun k v w' cnt' a1 a2 a3 a4 a5 a6 a7 a8=>by
  obtain⟨g,rfl⟩:=hsh k v a3
  exact h1 k g w' cnt' a1 a2 a3 a4 a5 a6 a7 a8)
end
set_option maxHeartbeats 4000000 in
theorem Z3v {w:World} {U:Nat→Prop} {g B n:Nat} {q:Int→Nat} {Z:Tz} (h:Tx w U g q B Z) (hz:Z.ok n) (hn:n≤900):
 Calls Tryz.prog 11 #[.pointer (some ⟨g,0,none⟩)] w fun e w'=>∃ g' U' q',e= .returned (.pointer (some ⟨g',0,none⟩))∧Below w.heap.size w w'∧Tx w' U' g' q' B Z∧∀ x,U' x→w.heap.size≤x:=by
 have hlow:=h.low
 obtain⟨tg,mb,ob,nb,sv,H,hU⟩:=h
 have hnn:Hid (∀ k v,nF q Z k=some v→(Z.nd k).k≠0∧v= .pointer (some ⟨q k,0,none⟩)):=fun k v hv=>by
  unfold nF at hv
  split at hv
  · cases hv
  · rename_i e;injection hv with hv;exact⟨e,hv.symm⟩
 have hsh:Hid (∀ k v,nF q Z k=some v→∃ g,v= .pointer (some ⟨g,0,none⟩)):=fun k v hv=>⟨_,(hnn.out k v hv).2⟩
 obtain⟨Uo,hFd,hUo⟩:=H.fd
 go_enter Tryz.func11,Tryz.ntmps11
 go_upto_region 3 with fail
 go_cut [3] (fun u wx=>∃ g' mb' ob' Uo',u= .pointer (some ⟨g',0,none⟩)∧Cs wx g' (trC mb' ob' Z)∧MpI Tryz.prog 3 wx mb' (fun _=>none)∧Fd wx Uo' ob' Z.t∧(w.heap.size≤g'∧w.heap.size≤mb'∧g'≠mb'∧∀ x,Uo' x→w.heap.size≤x∧x≠g'∧x≠mb')∧Below w.heap.size w wx)
 case first=>
  refine wp_region_held_drew (S:=fun u=>Below w.heap.size w u) (by kernel_rfl) (Below.refl _ _).drew (fun hHeld=>?_)
  refine tl 0 (.pointer (some ⟨g,0,none⟩)) rfl ?_
  try simp only [z]
  refine tl 1 (.pointer (some ⟨g,0,none⟩)) rfl ?_
  try simp only [z]
  refine tl 2 (.pointer (some ⟨g,0,none⟩)) rfl ?_
  try simp only [z]
  refine tl 3 (.map (some mb)) rfl ?_ (fun u hu=>by have x1:=(H.later hu).c0;go_simp)
  try simp only [z]
  refine tl 6 (.pointer (some ⟨g,0,none⟩)) rfl ?_
  try simp only [z]
  refine tl 7 (.pointer (some ⟨g,0,none⟩)) rfl ?_
  try simp only [z]
  refine tl 8 (.pointer (some ⟨g,1,none⟩)) rfl ?_
  try simp only [z]
  refine tl 9 (.int .i64 (Z.top - 1)) rfl ?_ (fun u hu=>by have x1:=(H.later hu).c1;go_simp)
  try simp only [z]
  refine tl 10 (.pointer (some ⟨g,0,none⟩)) rfl ?_
  try simp only [z]
  refine tl 11 (.pointer (some ⟨g,0,none⟩)) rfl ?_
  try simp only [z]
  refine tl 12 (.pointer (some ⟨g,2,none⟩)) rfl ?_
  try simp only [z]
  refine tl 13 (.pointer (some ⟨ob,0,none⟩)) rfl ?_ (fun u hu=>by have x1:=(H.later hu).c2;go_simp)
  try simp only [z]
  refine rd 4 rfl (fun K hK=>?_)
  refine Zbn rfl _ (by rfl) mb (nF q Z) (by rfl) (H.later hHeld).mp ?_
  intro sz
  refine hK.out _ _ (hHeld) (fun hHeld=>?_)
  clear hK K
  try simp only [z]
  refine wpAnyH_ready (rs:= [5,14]) (by kernel_rfl) (by simp) ?_
  refine(AllReadyH.cons (o:=⟨some 13, .makeMap 68 (some (.tmp 12)),68,_,#[⟨4, .data⟩],none⟩) rfl (fun K hK=>?_) (AllReadyH.cons (o:=⟨some 22, .call { callee:=Callee.value (.func 36),args:=#[.tmp 21],argTypes:=#[51]},51,_,#[⟨13, .data⟩,⟨4, .chain⟩],none⟩) rfl (fun K hK=>?_) AllReadyH.nil))
  · skip
    have zM:=hHeld.size
    refine Z8e rfl _ (by rfl) sz (by rfl) ?_
    intro mb' wM zM' pM bM
    have lM:=pM.lt
    have nM:w.heap.size≤mb':=by omega
    try (have nMU:∀ x,Uo' x→x≠mb':=fun x hx e=>by have:=fC.low x hx;omega)
    try (have fC:=fC.step (Stp.of_below bM (fun _=>False)) (fun _ _=>id))
    refine hK.out _ _ (Z00q hHeld bM (Nat.le_refl _)) (fun hHeld=>?_)
    clear hK K
    try simp only [z]
    refine rd 14 rfl (fun K hK=>?_)
    go_simp
    have zC:=hHeld.size
    refine(Z5b (hFd.step (Stp.of_below hHeld (fun _=>False)) (fun _ _=>id))).mono ?_
    rintro e wC ⟨ob',Uo',rfl,fC,bC,nC⟩
    try go_wp2_with fail
    have nCw:∀ x,Uo' x→w.heap.size≤x:=fun x hx=>by have:=nC x hx;omega
    try (have nMU:∀ x,Uo' x→x≠mb':=fun x hx e=>by have:=nC x hx;have:=pM.lt;omega)
    try (have pM:=pM.later bC)
    refine hK.out _ _ (Z00q hHeld bC (Nat.le_refl _)) (fun hHeld=>?_)
    clear hK K
    try simp only [z]
    refine tl 15 (.agg #[.map (some mb'), .int .i64 (Z.top - 1), .pointer (some ⟨ob',0,none⟩)]) rfl ?_
    try simp only [z]
    refine rd 16 rfl (fun K hK=>?_)
    have zB:=hHeld.size
    refine Z5e 70 rfl _ (by rfl) (trC mb' ob' Z) (by rfl) (by simp [trC,Value.oneCell']) ?_
    intro g' wB zB1 zB2 rB bB
    have pB:=pM.later bB
    have fB:=fC.step (Stp.of_below bB (fun _=>False)) (fun _ _=>id)
    have lpM:=pM.lt
    have nBU:∀ x,Uo' x→w.heap.size≤x∧x≠g'∧x≠mb':=fun x hx=>⟨nCw x hx,by have:=fC.low x hx;omega,nMU x hx⟩
    refine hK.out _ _ (Z00q hHeld bB (Nat.le_refl _)) (fun hHeld=>?_)
    clear hK K
    try simp only [z]
    refine tl 17 (.pointer (some ⟨g',0,none⟩)) rfl ?_
    try simp only [z]
    refine wpAnyH_done (by kernel_rfl) ?_ _
    go_wp2_with fail
    go_meet
    exact⟨g',mb',ob',Uo',rfl,rB,pB,fB,⟨by omega,nM,by omega,nBU⟩,hHeld⟩
  · skip
    go_simp
    have zC:=hHeld.size
    refine(Z5b (hFd.step (Stp.of_below hHeld (fun _=>False)) (fun _ _=>id))).mono ?_
    rintro e wC ⟨ob',Uo',rfl,fC,bC,nC⟩
    try go_wp2_with fail
    have nCw:∀ x,Uo' x→w.heap.size≤x:=fun x hx=>by have:=nC x hx;omega
    try (have nMU:∀ x,Uo' x→x≠mb':=fun x hx e=>by have:=nC x hx;have:=pM.lt;omega)
    try (have pM:=pM.later bC)
    refine hK.out _ _ (Z00q hHeld bC (Nat.le_refl _)) (fun hHeld=>?_)
    clear hK K
    try simp only [z]
    refine rd 5 rfl (fun K hK=>?_)
    have zM:=hHeld.size
    refine Z8e rfl _ (by rfl) sz (by rfl) ?_
    intro mb' wM zM' pM bM
    have lM:=pM.lt
    have nM:w.heap.size≤mb':=by omega
    try (have nMU:∀ x,Uo' x→x≠mb':=fun x hx e=>by have:=fC.low x hx;omega)
    try (have fC:=fC.step (Stp.of_below bM (fun _=>False)) (fun _ _=>id))
    refine hK.out _ _ (Z00q hHeld bM (Nat.le_refl _)) (fun hHeld=>?_)
    clear hK K
    try simp only [z]
    refine tl 15 (.agg #[.map (some mb'), .int .i64 (Z.top - 1), .pointer (some ⟨ob',0,none⟩)]) rfl ?_
    try simp only [z]
    refine rd 16 rfl (fun K hK=>?_)
    have zB:=hHeld.size
    refine Z5e 70 rfl _ (by rfl) (trC mb' ob' Z) (by rfl) (by simp [trC,Value.oneCell']) ?_
    intro g' wB zB1 zB2 rB bB
    have pB:=pM.later bB
    have fB:=fC.step (Stp.of_below bB (fun _=>False)) (fun _ _=>id)
    have lpM:=pM.lt
    have nBU:∀ x,Uo' x→w.heap.size≤x∧x≠g'∧x≠mb':=fun x hx=>⟨nCw x hx,by have:=fC.low x hx;omega,nMU x hx⟩
    refine hK.out _ _ (Z00q hHeld bB (Nat.le_refl _)) (fun hHeld=>?_)
    clear hK K
    try simp only [z]
    refine tl 17 (.pointer (some ⟨g',0,none⟩)) rfl ?_
    try simp only [z]
    refine wpAnyH_done (by kernel_rfl) ?_ _
    go_wp2_with fail
    go_meet
    exact⟨g',mb',ob',Uo',rfl,rB,pB,fB,⟨by omega,nM,by omega,nBU⟩,hHeld⟩
 case rest=>
  obtain⟨g',mb',ob',Uo',rfl,rC,pC,fC,⟨ng,nm',ngm,nU'⟩,Bc⟩:=hcut
  have Hc:=H.later Bc
  have c0:=Hc.c0
  go_wp2_with (first
   | (refine Zag (by rfl) _ (by rfl) (by rfl) (Zcf Hc.mp uMn) ?_;rintro w2 ⟨cnt,hrg,hk2,hz2⟩))
  go_frame
  obtain⟨r,hr⟩:∃ r,r=wc.heap.size:=⟨_,rfl⟩
  rw [← hr]at hrg ⊢
  have lg:=rC.lt
  have lm:=pC.lt
  have lU:=fC.low
  have B2:Below w.heap.size w w2:=Z00q Bc (hk2.below (Nat.le_refl _) (fun _ e=>e.elim)) (Nat.le_refl _)
  have hp0:∀ i,((Z.part (fun k=>(nF q Z k).isSome)).nd i).k=0:=fun i=>by
   rw [Z3s]
   split
   · rfl
   · rename_i hx
     have e2:Z.nd ((i.toNat:Nat):Int)=Z.nd i:=by unfold Tz.nd;rw [Int.toNat_natCast]
     unfold nF at hx
     rw [e2]at hx
     by_cases e:(Z.nd i).k=0
     · exact e
     · rw [if_neg e]at hx;exact absurd rfl hx
  have etr:trC mb' ob' Z=trC mb' ob' (Z.part (fun k=>(nF q Z k).isSome)):=by unfold trC Tz.top;rw [Z3z]
  obtain⟨tg0,T0,hT0⟩:=Tw.void (B:=B) (Z:=Z.part (fun k=>(nF q Z k).isSome)) hp0 (by rw [← etr];exact rC.step hk2 id) (pC.step hk2 id) (fC.step hk2 (fun _ _=>id)) ngm (fun x hx=>(nU' x hx).2)
  have hT0':∀ x,tg0 x≠0→w.heap.size≤x∧x≠r:=fun x hx=>by
   rcases hT0 x hx with e | e | e
   · exact⟨by omega,by omega⟩
   · exact⟨by omega,by omega⟩
   · have:=lU x e;exact⟨(nU' x e).1,by omega⟩
  have hlr:r < w2.heap.size:=by omega
  have lmb:=H.mp.lt
  have hwr:w.heap.size≤r:=by have:=Bc.size;omega
  clear hz2 hr hT0 etr hp0 fC pC rC lU nU' lg lm c0 hk2
  go_loopw [4,5] (fun _ _ wr=>∃ left cnt tg' q' nb' sv',RgI Tryz.prog 3 wr mb r (nF q Z) left cnt∧Tw wr tg' g' mb' ob' q' nb' sv' B (Z.part left)∧(∀ x,tg' x≠0→w.heap.size≤x∧x≠r)∧r < wr.heap.size∧Below w.heap.size w wr) (fun _ _ wr=>wr.rangeLeft mb r)
  case atStart=>exact⟨_,_,tg0,_,_,_,hrg,T0,hT0',hlr,B2⟩
  case round=>
   clear hrg T0 hT0' hlr B2
   obtain⟨left,cnt,tg',q',nb',sv',hrg,T,hT,hlr,hB⟩:=hrel
   go_wp2_with (first
    | (refine Zc4 (by rfl) _ (by rfl) (by rfl) hrg hsh.out (fun hl=>?_) (fun k gk w3 cnt3 hwf hlk hfk hrg3 hc3 hs3 hz3 hen=>?_)
       rotate_left
       have hzz:Hid (w3.heap.size=wr.heap.size):=hz3
       obtain⟨hkl,egk⟩:=hnn.out k _ hfk
       obtain rfl:q k=gk:=by injection egk with e;injection e with e;injection e with e;exact e.symm
       clear hz3))
   · have B3:Below w.heap.size w w3:=((Stp.of_below hB (fun _=>False)).next hs3 (fun x e=> .inr (by omega))).below (Nat.le_refl _) (fun _ h=>h.elim)
     have H3:=H.later B3
     have T3:=T.step hs3 (fun x hx e=>(hT x hx).2 e)
     have hkr:=hz.live hkl
     have hz3:=hzz.out
     have hlkH:Hid (left k=true):=hlk
     have hrH:Hid (RgI Tryz.prog 3 w3 mb r (nF q Z) (fun x=>left x&& !decide (x=k)) cnt3):=hrg3
     have hcH:Hid (cnt3 < cnt):=hc3
     have hTH:Hid (∀ x,tg' x≠0→w.heap.size≤x∧x≠r):=hT
     clear hlk hrg3 hc3 hT hen hfk
     refine Z0p (S:=fun u=>Below w3.heap.size w3 u) _ _ (by simp only [List.pop_toArray,List.dropLast_cons_cons,List.dropLast_singleton];rfl) (by simp only [List.back?_toArray,List.getLast?_cons_cons,List.getLast?_singleton];rfl) (by kernel_rfl) (by kernel_rfl) (Below.refl _ _).drew (fun hHeld=>?_)
     refine tl 0 (.pointer (some ⟨g',0,none⟩)) rfl ?_
     try simp only [z]
     refine tl 1 (.pointer (some ⟨g',0,none⟩)) rfl ?_
     try simp only [z]
     refine tl 2 (.pointer (some ⟨g',0,none⟩)) rfl ?_
     try simp only [z]
     refine tl 3 (.map (some mb')) rfl ?_ (fun u hu=>by have x1:=(T3.later hu).c0;go_simp)
     try simp only [z]
     refine tl 4 (.int .i64 k) rfl ?_
     try simp only [z]
     refine tl 5 (.pointer (some ⟨q k,0,none⟩)) rfl ?_
     try simp only [z]
     refine tl 6 (.pointer (some ⟨q k,0,none⟩)) rfl ?_
     try simp only [z]
     refine tl 7 (.pointer (some ⟨q k,0,none⟩)) rfl ?_
     try simp only [z]
     refine tl 8 (.int .i64 (Z.nd k).k) rfl ?_ (fun u hu=>by have x1:=(H3.later hu).n0 hkl;go_simp)
     try simp only [z]
     refine tl 9 (.pointer (some ⟨q k,0,none⟩)) rfl ?_
     try simp only [z]
     refine tl 10 (.pointer (some ⟨q k,0,none⟩)) rfl ?_
     try simp only [z]
     refine tl 11 (.pointer (some ⟨q k,1,none⟩)) rfl ?_
     try simp only [z]
     refine tl 12 (.int .i64 (Z.nd k).ln) rfl ?_ (fun u hu=>by have x1:=(H3.later hu).n1 hkl;go_simp)
     try simp only [z]
     refine tl 13 (.pointer (some ⟨q k,0,none⟩)) rfl ?_
     try simp only [z]
     refine tl 14 (.pointer (some ⟨q k,0,none⟩)) rfl ?_
     try simp only [z]
     refine tl 15 (.pointer (some ⟨q k,2,none⟩)) rfl ?_
     try simp only [z]
     refine tl 16 (.slice (sv k).a (sv k).n (sv k).c) rfl ?_ (fun u hu=>by have x1:=(H3.later hu).n2 hkl;go_simp)
     try simp only [z]
     refine tl 18 (.pointer (some ⟨q k,0,none⟩)) rfl ?_
     try simp only [z]
     refine tl 19 (.pointer (some ⟨q k,0,none⟩)) rfl ?_
     try simp only [z]
     refine tl 20 (.pointer (some ⟨q k,3,none⟩)) rfl ?_
     try simp only [z]
     refine tl 21 (.map (mo (Z.nd k).k (nb k))) rfl ?_ (fun u hu=>by have x1:=((H3.later hu).nd k hkl).2.cell 3 _ rfl;go_simp)
     try simp only [z]
     refine rd 17 rfl (fun K hK=>?_)
     go_simp
     refine(Z3n (OwD.bsS ((H3.later hHeld).dt k hkl).1 (hz.db k)).2.1 (by have:=hz.dl k;omega)).mono ?_
     rintro e wS ⟨s1,rfl,oD,nD,hl1,bS⟩
     try go_wp2_with fail
     have nD1:∀ r,s1.v.ownBlock=some r→w3.heap.size≤r:=fun r hr=>Nat.le_trans hHeld.size (nD r hr)
     have oL:=fun r hr=>(oD.lt r hr).2
     refine hK.out _ _ (Z00q hHeld bS (Nat.le_refl _)) (fun hHeld=>?_)
     clear hK K
     try simp only [z]
     refine rd 22 rfl (fun K hK=>?_)
     go_simp
     refine(Zc7 (fun e=>((H3.later hHeld).nm k e).2)).mono ?_
     rintro e wN ⟨bm,rfl,hbm,bN⟩
     try go_wp2_with fail
     have zN:=hHeld.size
     have hnb:(Z.nd k).k=2→∀ r,s1.v.ownBlock=some r→r≠bm:=fun e r hr c=>by have:=oL r hr;have:=(hbm e).1;omega
     have hbL:=fun e=>(hbm e).2.lt
     have oD:=oD.later bN
     refine hK.out _ _ (Z00q hHeld bN (Nat.le_refl _)) (fun hHeld=>?_)
     clear hK K
     try simp only [z]
     refine tl 23 (.agg #[.int .i64 (Z.nd k).k, .int .i64 (Z.nd k).ln, .slice s1.a s1.n s1.c, .map (mo (Z.nd k).k bm)]) rfl ?_
     try simp only [z]
     refine rd 24 rfl (fun K hK=>?_)
     have zB:=hHeld.size
     refine Z5e 73 rfl _ (by rfl) (ndC (Z.nd k) s1 bm) (by rfl) (by simp [ndC,Value.oneCell']) ?_
     intro b wB zB1 zB2 rB bB
     have oD:=oD.later bB
     refine hK.out _ _ (Z00q hHeld bB (Nat.le_refl _)) (fun hHeld=>?_)
     clear hK K
     try simp only [z]
     refine wpAnyH_done (by kernel_rfl) ?_ _
     have hMb:(Z.nd k).k=2→MpT wB bm B (Z.nd k).nm:=fun e=>(hbm e).2.later bB
     have TB:=T3.later hHeld
     have hkeys:∀ j,(nF q' (Z.part left) j).isSome→0≤j∧j < 2048:=fun j hj=>by
      unfold nF at hj
      split at hj
      · cases hj
      · rename_i e
        rw [Z3s]at e
        split at e
        · exact absurd rfl e
        · have:=hz.live e;have:=hz.few;omega
     show wpList _ _ _ [_] _ _
     refine Z5h (by rfl) _ _ _ (by rfl) mb' (nF q' (Z.part left)) (by rfl) k (by rfl) (.pointer (some ⟨b,0,none⟩)) (by rfl) TB.mp hkeys (Z22 (by have:=hz.few;omega)) ?_
     intro w7 m7 s7
     have lm3:=T3.mp.lt
     have zNN:=bN.size
     have s37:Stp (fun x=>x=mb') w3 w7:=(Stp.of_below hHeld _).trans s7
     have hTm:=hTH.out mb' (by rw [T3.mt];decide)
     obtain⟨tg2,T2,hT2⟩:=T3.born (k:=k) ⟨hkr.1,by rw [Z3z];exact hkr.2⟩ (by rw [Z3s,show((k.toNat:Nat):Int)=k by omega,if_pos hlkH.out];rfl) (Z.nd k) hkl (b:=b) (bm:=bm) (s1:=s1) s37 (by omega) (fun e=>⟨by have:=(hbm e).1;omega,by have:=hbL e;omega⟩) (fun r hr=>⟨nD1 r hr,by have:=oL r hr;omega,fun e=>hnb e r hr⟩) m7 (rB.step s7 (fun e=>by omega)) (oD.step s7 (fun r hr e=>by have:=nD1 r hr;omega)) (fun e=>(hMb e).step s7 (fun c=>by have:=(hbm e).1;omega))
     rw [Zcl ⟨by omega,hkr.2⟩]at T2
     have hT2':∀ x,tg2 x≠0→w.heap.size≤x∧x≠r:=fun x hx=>by
      rcases hT2 x hx with e | e
      · exact hTH.out x e
      · exact⟨by have:=B3.size;omega,by omega⟩
     have hrg7:=hrH.out.step s37 (fun e=>by omega) (fun e=>hTm.2 e.symm)
     have B7:Below w.heap.size w w7:=((Stp.of_below B3 (fun _=>False)).next s37 (fun x e=> .inr (by omega))).below (Nat.le_refl _) (fun _ h=>h.elim)
     have z7:=s37.size
     have hR7:Hid (RgI Tryz.prog 3 w7 mb r (nF q Z) (fun x=>left x&& !decide (x=k)) cnt3):=hrg7
     have hT7:Hid (∀ x,tg2 x≠0→w.heap.size≤x∧x≠r):=hT2'
     clear hrg7 hT2' hT2
     clear hHeld
     try simp only [Act.put]
     go_wp2_with fail
     go_roundw
     case rel=>exact⟨_,_,tg2,_,_,_,hR7.out,T2,hT7.out,by omega,B7⟩
     case measure=>rw [hR7.out.left_eq,hrg.left_eq];have:=hcH.out;omega
   · rw [Zb3 hl]at T
     have hTH:Hid (∀ x,tg' x≠0→w.heap.size≤x∧x≠r):=hT
     clear hT hl
     go_wp2_with fail
     go_returns
     exact⟨g',fun x=>tg' x≠0,q',rfl,hB,⟨tg',mb',ob',nb',sv',T,fun x=>Iff.rfl⟩,fun x hx=>(hTH.out x hx).1⟩
set_option maxRecDepth 100000 in
set_option maxHeartbeats 2000000 in
theorem Zcv {w:World} {a b:Sv} {l:List Int} (ha:InsS w a l) (hb:InsS w b l) (hl:l.length≤100000):
 Calls Tryz.prog 16 #[.slice a.a a.n a.c, .slice b.a b.n b.c] w fun e w'=>e= .returned (.bool true)∧Below w.heap.size w w':=by
 have h1:=ha.i.len
 have h2:=hb.i.len
 have ca:=ha.i.cell
 have cb:=hb.i.cell
 obtain⟨aa,an,ac⟩:=a
 obtain⟨ba,bn,bc⟩:=b
 simp only at h1 h2 ca cb ⊢
 subst h1;subst h2
 clear ha hb
 go_enter Tryz.func16,Tryz.ntmps16
 go_wp2
 go_loopw [5] (fun x wr=>∃ k:Nat,k≤l.length∧x= .int .i64 (k:Int)∧Below w.heap.size w wr) (fun x _=>l.length - (intOf x).toNat)
 case atStart=>exact⟨0,Nat.zero_le _,rfl,Below.refl _ _⟩
 case round=>
  obtain⟨k,hk,rfl,hB⟩:=hrel
  by_cases hlt:k < l.length
  · obtain⟨b1,o1,rfl,c1⟩:=ca (by omega)
    obtain⟨b2,o2,rfl,c2⟩:=cb (by omega)
    have ck1:wr.cell? ⟨b1,o1+k,none⟩=some (.int .i64 (l.getD k 0)):=(Stp.of_below hB (fun _=>False)).cell (c1 k hlt) id
    have ck2:wr.cell? ⟨b2,o2+k,none⟩=some (.int .i64 (l.getD k 0)):=(Stp.of_below hB (fun _=>False)).cell (c2 k hlt) id
    clear c1 c2 ca cb
    generalize l.getD k 0=y at *
    have a9:(k:Int) < (l.length:Int):=by omega
    have a8:(0:Int)≤(k:Int):=by omega
    go_wp2
    go_region
    go_wp2
    go_roundw
    case rel=>exact⟨k+1,by omega,by go_num,hB.drew⟩
    case measure=>simp [intOf];omega
  · have hk':k=l.length:=by omega
    subst hk'
    go_wp2
    go_returns
    exact⟨rfl,hB⟩
set_option maxRecDepth 100000
theorem usW (t:FT):∀ x ∈ fdUs t 8,wfi x:=fun x hx=>by
 obtain⟨j,rfl,hj,_⟩:=Z4q t 8 x hx
 exact Z22 (by omega)
theorem LiR.insT {u w':World} {l:List Int} {v:Value} (h:LiR u l v w') (hl:∀ x ∈ l,wfi x):∃ s:Sv,v= .slice s.a l.length s.c∧s.n=l.length∧InsS w' s l:=by
 obtain⟨o,n,_⟩:=h
 obtain⟨sv,e1,e2,e3,_⟩:=o.ins hl n
 exact⟨sv,by rw [e1];unfold Sv.v;rw [e2],e2,e3⟩
theorem Zew {w:World} {U:Nat→Prop} {g:Nat} {t:FT} (h:Fd w U g t):
 Calls Tryz.prog 18 #[.pointer (some ⟨g,0,none⟩)] w fun e w'=>∃ s:Sv,e= .returned (.slice s.a s.n s.c)∧InsS w' s (fdUs t 8)∧Below w.heap.size w w':=by
 refine(Z35 h).mono ?_
 rintro e w' ⟨v,rfl,L⟩
 obtain⟨⟨xa,xn,xc⟩,rfl,e2,e3⟩:=L.insT (usW t)
 simp only at e2;subst e2
 exact⟨_,rfl,e3,L.2.2⟩
theorem Zfv {w:World} {y:Nat} {t:FT} (h:Rd w y t):
 Calls Tryz.prog 19 #[.pointer (some ⟨y,0,none⟩)] w fun e w'=>∃ s:Sv,e= .returned (.slice s.a s.n s.c)∧InsS w' s (fdUs t 8)∧Below w.heap.size w w':=by
 refine(Z6c h).mono ?_
 rintro e w' ⟨v,rfl,L⟩
 obtain⟨⟨xa,xn,xc⟩,rfl,e2,e3⟩:=L.insT (usW t)
 simp only at e2;subst e2
 exact⟨_,rfl,e3,L.2.2⟩
theorem Zb0 (w:World) (i:Int):Calls Tryz.prog 14 #[.pointer none, .int .i64 i] w fun e w'=>e= .returned (.tuple #[.agg (tnC Nd.zero Sv.nil (.slice none 0 0)).toArray, .int .i64 1])∧Below w.heap.size w w':=by
 go_enter Tryz.func14,Tryz.ntmps14
 go_wp2_with (first
  | (refine Z1i 48 4 _ Z1d (by rfl) (by rfl) ?_;intro gr w1 z1 z2 r1 b1)
  | (refine Z1e 48 4 _ Z1d (by rfl) _ _ (by rfl) gr (by rfl) (tnC Nd.zero Sv.nil (.slice none 0 0)) (by rfl) rfl (Z27 _ _ rfl) _ r1 rfl ?_;intro w9 r9 s9))
 exact bodyPost_ret (Z0d Z1d Tryz.results14 rfl rfl r9 rfl) rfl ⟨rfl,((Stp.of_below b1 (fun _=>False)).next s9 (fun y e=> .inr (by omega))).below (Nat.le_refl _) (fun y e=>e.elim)⟩
end Go.Proofs.YtdnjddpfcgginaaGreat
