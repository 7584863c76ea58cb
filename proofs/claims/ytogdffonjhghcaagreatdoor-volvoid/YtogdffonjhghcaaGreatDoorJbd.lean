/-
  Texts of my own, joined: no statement is proved here.
-/
import Derived.Test.YtogdffonjhghcaaGreatDoorJax
set_option linter.unusedSimpArgs false
set_option linter.unusedVariables false
namespace Go.Proofs.YtogdffonjhghcaaGreatDoor
open Go.ChangeShapes Go.WideShapes Go.ChangeAt Go.RowKit
structure Gr (w:World) (g mp mw:Nat) (f fw:Int→Option Value) (Z:GZ) (E F:Nat→Prop):Prop where
  c:Cs w g [.int .i64 Z.last, .map (some mp), .map (some mw)]
  pm:MpI Tryz.prog 3 w mp f
  wm:MpI Tryz.prog 3 w mw fw
  ps:∀ i p,fnd Z.l i=some p→∃ d n:Sv,f i=some (.agg (p.cs d n).toArray)∧PtM w E p d n
  pn:∀ i,fnd Z.l i=none→f i=none
  ws:∀ s,wts Z.l s≠ []→∃ v,fw s=some v∧OwV w v (wts Z.l s)∧∀ r,v.ownBlock=some r→F r∧r≠g
  wn:∀ s,wts Z.l s= []→fw s=none
  ap:∀ s s' v v' r,fw s=some v→fw s'=some v'→v.ownBlock=some r→v'.ownBlock=some r→s=s'
  fg:F g
  fm:F mp
  fw':F mw
  ne:mp≠mw
  lt:∀ x,F x→x < w.heap.size
  el:∀ x,E x→x < w.heap.size
  ef:∀ x,E x→¬F x
  ok:Z.ok 2000
section
variable {w w' : World} {g mp mw : Nat} {f fw : Int → Option Value} {Z : GZ} {E F X : Nat → Prop}
theorem Gr.step (H:Gr w g mp mw f fw Z E F) (k:Stp X w w') (hF:∀ x,F x→¬X x) (hE:∀ x,E x→¬X x):Gr w' g mp mw f fw Z E F:=
  ⟨H.c.step k (hF _ H.fg),H.pm.step k (hF _ H.fm),H.wm.step k (hF _ H.fw'),fun i p hp=>by
    obtain⟨d,n,h1,h2⟩:=H.ps i p hp
    exact⟨d,n,h1,h2.step k hE⟩,H.pn,fun s hs=>by
    obtain⟨v,h1,h2,h3⟩:=H.ws s hs
    exact⟨v,h1,h2.step k (fun r hr=>hF r (h3 r hr).1),h3⟩,H.wn,H.ap,H.fg,H.fm,H.fw',H.ne,fun x hx=>Nat.lt_of_lt_of_le (H.lt x hx) k.size,fun x hx=>Nat.lt_of_lt_of_le (H.el x hx) k.size,H.ef,H.ok⟩
theorem Gr.later (H:Gr w g mp mw f fw Z E F) (k:Below w.heap.size w w'):Gr w' g mp mw f fw Z E F:=H.step (Stp.of_below k (fun _=>False)) (fun _ _=>id) (fun _ _=>id)
theorem Gr.cells (H:Gr w g mp mw f fw Z E F):w.cell? ⟨g,0,none⟩=some (.int .i64 Z.last)∧w.cell? ⟨g,1,none⟩=some (.map (some mp))∧w.cell? ⟨g,2,none⟩=some (.map (some mw)):=
  ⟨H.c.cell 0 _ rfl,H.c.cell 1 _ rfl,H.c.cell 2 _ rfl⟩
def gt (l:List Pt) (i:Int):Pt:=(fnd l i).getD Pt.zero
theorem Gr.look (H:Gr w g mp mw f fw Z E F) (i:Int):∃ d n:Sv,(f i).getD (.agg (Pt.zero.cs Sv.nil Sv.nil).toArray)= .agg ((gt Z.l i).cs d n).toArray∧PtM w E (gt Z.l i) d n∧(f i).isSome=has Z.l i:=by
  rw [has_fnd]
  unfold gt
  cases h:fnd Z.l i with
  | none=>rw [H.pn i h];exact⟨Sv.nil,Sv.nil,rfl,PtM.zero w E,rfl⟩
  | some p=>
    obtain⟨d,n,h1,h2⟩:=H.ps i p h
    rw [h1];exact⟨d,n,rfl,h2,rfl⟩
theorem Gr.wait (H:Gr w g mp mw f fw Z E F) (s:Int):∃ v:Sv,(fw s).getD (.slice none 0 0)= .slice v.a v.n v.c∧OwV w (.slice v.a v.n v.c) (wts Z.l s)∧InsS w v (wts Z.l s)∧(∀ r,(Value.slice v.a v.n v.c).ownBlock=some r→F r∧r≠g):=by
  have hwf:∀ x ∈ wts Z.l s,wfi x:=fun x hx=>by
    obtain⟨p,h1,h2,_⟩:=wts_mem.1 hx
    have:=H.ok.rng p h1
    have h3:=H.ok.lt
    exact wfi_of (by omega)
  by_cases h:wts Z.l s= []
  · rw [H.wn s h,h];exact⟨Sv.nil,rfl,OwV.nil w,InsS.nil w,fun r e=>by cases e⟩
  · obtain⟨v,h1,h2,h3⟩:=H.ws s h
    obtain⟨sv,e1,e2,e3,_⟩:=h2.ins (B:=0) hwf (fun r _=>Nat.zero_le r)
    subst e1
    exact⟨sv,by rw [h1];rfl,h2,e3,h3⟩
theorem GZ.ok.wfp (h:Z.ok 2000) {p:Pt} (hp:p ∈ Z.l):p.wfp:=by
  obtain⟨f1,f2,f3,f4,f5,f6,f7⟩:=fit_to (h.ft p hp)
  have:=h.rng p hp
  have:=h.lt
  exact⟨wfi_of (by omega),wfi_of (by omega),wfi_of (by omega),wfi_of (by omega),(h.wf p hp).1,(h.wf p hp).2⟩
theorem uPm:Tryz.prog.underlying 186=some (.map 3 56):=by kernel_rfl
theorem uWm:Tryz.prog.underlying 187=some (.map 3 54):=by kernel_rfl
theorem zP (w:World):(zeroValue 56).run Tryz.prog w= .ok (.agg (Pt.zero.cs Sv.nil Sv.nil).toArray) w:=srtP.zero w
theorem zI (w:World):(zeroValue 54).run Tryz.prog w= .ok (.slice none 0 0) w:=(zero_of_info (v:= .slice none 0 0) (n:=1) (by kernel_rfl)).1 w
end
section
variable {ops : Array Oper} {rest : List Oper} {o : Oper} {a : Act} {w : World} {Q : Exit → Act → World → Prop}
theorem at_look1 (T E:Nat) (hT:Tryz.prog.underlying T=some (.map 3 E)) (z:Value) (hz:∀ w,(zeroValue E).run Tryz.prog w= .ok z w) (hw:Region.wanted o (yielded ops a.tmps)=true) (m x:Operand) (ho:o.op= .lookup T m x false) (b:Nat) (f:Int→Option Value) (hm:a.eval m= .map (some b)) (hM:MpI Tryz.prog 3 w b f) (k:Int) (hx:a.eval x= .int .i64 k) (hk:(Lit.int .i64 k).wf=true) (v:Value) (hv:(f k).getD z=v)
    (h:wpList Tryz.prog ops Q rest (a.put o.dst v) w):wpList Tryz.prog ops Q (o::rest) a w:=by
  subst hv
  refine op_val hw _ _ ?_ h
  simp [execOp,ho,hm,hx,hM.look uIntC hT (hz w) hk]
theorem at_look2' (T E:Nat) (hT:Tryz.prog.underlying T=some (.map 3 E)) (z:Value) (hz:∀ w,(zeroValue E).run Tryz.prog w= .ok z w) (hw:Region.wanted o (yielded ops a.tmps)=true) (m x:Operand) (ho:o.op= .lookup T m x true) (b:Nat) (f:Int→Option Value) (hm:a.eval m= .map (some b)) (hM:MpI Tryz.prog 3 w b f) (k:Int) (hx:a.eval x= .int .i64 k) (hk:(Lit.int .i64 k).wf=true) (v:Value) (hv:(f k).getD z=v) (c:Bool) (hc:(f k).isSome=c)
    (h:wpList Tryz.prog ops Q rest (a.put o.dst (.tuple #[v, .bool c])) w):wpList Tryz.prog ops Q (o::rest) a w:=by
  subst hv;subst hc
  exact at_look2 T E hT z hz hw m x ho b f hm hM k hx hk h
end
section
variable {ops : Array Oper} {rest : List Oper} {o : Oper} {a : Act} {w : World} {Q : Exit → Act → World → Prop}
theorem at_updM (T E:Nat) (hT:Tryz.prog.underlying T=some (.map 3 E)) (hw:Region.wanted o (yielded ops a.tmps)=true) (m x y:Operand) (ho:o.op= .mapUpdate T m x y) (b:Nat) (f:Int→Option Value) (hm:a.eval m= .map (some b)) (k:Int) (hx:a.eval x= .int .i64 k) (v:Value) (hy:a.eval y=v)
    (hM:MpI Tryz.prog 3 w b f) (hf:∀ k,(f k).isSome→0≤k∧k < 2048) (hk:(Lit.int .i64 k).wf=true)
    (h:∀ w',MpI Tryz.prog 3 w' b (upd f k (some v))→Stp (fun x=>x=b) w w'→wpList Tryz.prog ops Q rest (a.put o.dst undef) w'):wpList Tryz.prog ops Q (o::rest) a w:=by
  obtain⟨w',r1,r2,r3⟩:=hM.store uIntC hT hf hk v
  refine op_unit hw _ ?_ (h w' r2 (turned_stp r3))
  simp [execOp,ho,hm,hx,hy,r1]
end
theorem held_yes {l:List Pt} {p:Pt} {k:Nat} (h:(p.needs.take k).any (has l)=true):held l p=true:=by
  unfold held
  have:=List.take_append_drop k p.needs
  rw [← this,List.any_append,h];rfl
set_option maxRecDepth 100000 in
set_option maxHeartbeats 2000000 in
theorem held_any {w:World} {g mp mw:Nat} {f fw:Int→Option Value} {Z:GZ} {E F:Nat→Prop} (H:Gr w g mp mw f fw Z E F) (p:Pt) (d n:Sv) (h:InsS w n p.needs) (hm:p.needs.length≤100000):
    Calls Tryz.prog 271 #[.pointer (some ⟨g,0,none⟩), .agg (p.cs d n).toArray] w fun e w'=>e= .returned (.bool (held Z.l p))∧Below w.heap.size w w':=by
  have tok:True:=trivial
  have hl:=h.i.len
  have hwf:=h.i.wf
  obtain⟨na,nn,nc⟩:=n
  go_enter Tryz.func271,Tryz.ntmps271
  go_wp2_with (first
    | (clear tok;refine at_boxP (by rfl) _ (by rfl) p d ⟨na,nn,nc⟩ (by rfl) ?_;intro g1 w1 a1 a2 r1 b1;obtain⟨c0,c1,c2,c3,c4,c5,c6,c7,c8⟩:=Pt.cells r1;clear c0 c1 c2 c3 c4 c6 c7 c8 hl))
  clear c5
  have hl:=h.i.len
  go_loopw [12] (fun v wr=>∃ k:Nat,k≤p.needs.length∧v= .int .i64 (k:Int)∧Below w.heap.size w wr∧(p.needs.take k).any (has Z.l)=false) (fun v _=>p.needs.length - (intOf v).toNat)
  case atStart=>exact⟨0,Nat.zero_le _,rfl,b1,rfl⟩
  case round=>
    obtain⟨k,hk,rfl,hb,hn⟩:=hrel
    by_cases hlt:k < p.needs.length
    · have h2:=h.later hb
      obtain⟨b,o,e,hcs⟩:=h2.i.cell (by simp only at hl ⊢;omega)
      have ck:=hcs k (by simp only at hl ⊢;omega)
      simp only at e
      subst e
      have hw0:wfi (p.needs.getD k 0):=by
        rw [List.getD_eq_getElem?_getD,List.getElem?_eq_getElem hlt];exact hwf _ (List.getElem_mem _)
      have H2:=H.later hb
      obtain⟨z0,z1,z2⟩:=H2.cells
      obtain⟨d2,n2,e2,m2,e3⟩:=H2.look (p.needs.getD k 0)
      have hT:(p.needs.take (k+1)).any (has Z.l)=has Z.l (p.needs.getD k 0):=by
        rw [List.take_add_one,List.getElem?_eq_getElem hlt,List.any_append,hn,List.getD_eq_getElem?_getD,List.getElem?_eq_getElem hlt];simp
      have hT':Hid ((p.needs.take (k+1)).any (has Z.l)=has Z.l (p.needs.getD k 0)):=hT
      have pm:=H2.pm
      clear hT hcs h2 H2 m2 hn
      generalize p.needs.getD k 0=y at *
      generalize gt Z.l y=q at *
      have a3:(k:Int) < (nn:Int):=by simp only at hl;omega
      have tok3:True:=trivial
      have tok4:True:=trivial
      have tok5:True:=trivial
      have hY:Hid (has Z.l y=true→held Z.l p=true):=fun e=>held_yes (k:=k+1) (by rw [hT'.out,e])
      cases hc:has Z.l y with
      | true=>
        rw [hc]at e3 hT' hY
        go_wp2_with (first
          | (clear tok3;refine at_look2' 186 56 uPm _ zP (by rfl) _ _ (by rfl) mp f (by rfl) pm y (by rfl) hw0 _ e2 _ e3 ?_)
          | (clear tok4;refine at_newP (by rfl) (by rfl) ?_;intro g3 w3 a5 a6 r3 b3)
          | (clear tok5;refine at_putP (by rfl) _ _ (by rfl) g3 (by rfl) q d2 n2 (by rfl) _ r3 rfl ?_;intro w4 r4 s4))
        go_returns
        exact⟨ret_bool (hY.out trivial).symm,((Stp.of_below (bnext hb b3 (Nat.le_refl _)) (fun _=>False)).next s4 (fun x e=> .inr (by have:=hb.size;omega))).below (Nat.le_refl _) (fun x e=>e.elim)⟩
      | false=>
        rw [hc]at e3 hT'
        go_wp2_with (first
          | (clear tok3;refine at_look2' 186 56 uPm _ zP (by rfl) _ _ (by rfl) mp f (by rfl) pm y (by rfl) hw0 _ e2 _ e3 ?_)
          | (clear tok4;refine at_newP (by rfl) (by rfl) ?_;intro g3 w3 a5 a6 r3 b3)
          | (clear tok5;refine at_putP (by rfl) _ _ (by rfl) g3 (by rfl) q d2 n2 (by rfl) _ r3 rfl ?_;intro w4 r4 s4))
        go_roundw
        case rel=>exact⟨k+1,by omega,by go_num,((Stp.of_below (bnext hb b3 (Nat.le_refl _)) (fun _=>False)).next s4 (fun x e=> .inr (by have:=hb.size;omega))).below (Nat.le_refl _) (fun x e=>e.elim),hT'.out⟩
        case measure=>simp [intOf];omega
    · have hk':k=p.needs.length:=by omega
      subst hk'
      rw [List.take_length]at hn
      have hn':Hid (held Z.l p=false):=hn
      clear hn
      go_wp2
      go_returns
      exact⟨ret_bool hn'.out.symm,hb⟩
section
variable {ops : Array Oper} {o : Oper} {a : Act} {S : World → Prop}
theorem yields_M' (T E:Nat) (hT:Tryz.prog.underlying T=some (.map 3 E)) (z:Value) (hz:∀ w,(zeroValue E).run Tryz.prog w= .ok z w) (hw:Region.wanted o (yielded ops a.tmps)=true) (m x:Operand) (ho:o.op= .lookup T m x false) (b:Nat) (f:Int→Option Value) (hm:a.eval m= .map (some b)) (k:Int) (hx:a.eval x= .int .i64 k) (hk:(Lit.int .i64 k).wf=true) (hS:∀ w,S w→MpI Tryz.prog 3 w b f) (v:Value) (hv:(f k).getD z=v):
    YieldsIf Tryz.prog ops S o v a:=by
  subst hv;exact yields_M T E hT z hz hw m x ho b f hm k hx hk hS
end
theorem wtP_mem {l:List Pt} {s:Int} {p:Pt} :p ∈ wtP l s↔p ∈ l∧p.at'=s∧p.wr=false:=by
  unfold wtP inS;simp [List.mem_filter]
theorem wts_len (l:List Pt) (s:Int):(wts l s).length=(wtP l s).length:=by unfold wts ids;simp
theorem wts_get {l:List Pt} {s:Int} {k:Nat} (hk:k < (wtP l s).length):(wts l s).getD k 0=((wtP l s)[k]).id:=by
  unfold wts ids;rw [List.getD_eq_getElem?_getD,List.getElem?_map,List.getElem?_eq_getElem hk];rfl
theorem GZ.ok.gt_of {Z:GZ} {t:Int} (h:Z.ok t) {p:Pt} (hp:p ∈ Z.l):gt Z.l p.id=p:=by unfold gt;rw [fnd_of h.srt hp];rfl
def ahd (l:List Pt) (p:Pt):List Pt:=(wtP l p.at').filter fun q=>decide (q.id < p.id)
theorem ahd_cut {l:List Pt} {p:Pt} (hs:l.Pairwise fun a b=>a.id < b.id) (k:Nat) (hk:k≤(wtP l p.at').length) (h1:∀ q ∈ (wtP l p.at').take k,q.id < p.id) (h2:∀ h:k < (wtP l p.at').length,p.id≤((wtP l p.at')[k]).id):ahd l p=(wtP l p.at').take k:=by
  unfold ahd
  have hW:(wtP l p.at').Pairwise fun a b=>a.id < b.id:=hs.filter _
  generalize wtP l p.at'=W at *
  have:=List.take_append_drop k W
  conv=>lhs;rw [← this]
  rw [List.filter_append,List.filter_eq_self.2 (fun q hq=>by simpa using h1 q hq)]
  have :(W.drop k).filter (fun q=>decide (q.id < p.id))= []:=by
    refine List.filter_eq_nil_iff.2 fun q hq=>?_
    simp only [decide_eq_true_eq,Int.not_lt]
    by_cases hlt:k < W.length
    · rw [List.drop_eq_getElem_cons hlt]at hq
      have h3:=h2 hlt
      rcases List.mem_cons.1 hq with rfl | hq
      · exact h3
      · have hp2:(W.drop k).Pairwise fun a b=>a.id < b.id:=hW.sublist (List.drop_sublist k W)
        rw [List.drop_eq_getElem_cons hlt,List.pairwise_cons]at hp2
        have:=hp2.1 q hq
        omega
    · rw [List.drop_eq_nil_of_le (by omega)]at hq;cases hq
  rw [this,List.append_nil]
theorem bhd_is {l:List Pt} (p:Pt) (hp:fit p=true) (hf:∀ q ∈ l,fit q=true):mtS (shB (ahd l p)) (shK (ahd l p)) p=bhd l p:=by
  rw [mtS_is p hp _ (fun q hq=>by
    unfold ahd at hq
    have h1:=wtP_mem.1 (List.mem_filter.1 hq).1
    exact⟨hf q h1.1,h1.2.1⟩)]
  unfold ahd bhd wtP
  rw [List.filter_filter,List.any_filter]
  congr 1
  funext q
  unfold inS meet
  by_cases e:q.at'=p.at'
  · cases q.wr<;>simp [e]
  · have e':(q.at'==p.at')=false:=by simpa using e
    cases q.wr<;>simp [e']
set_option maxRecDepth 100000 in
set_option maxHeartbeats 2000000 in
theorem ahead_any {w:World} {g mp mw:Nat} {f fw:Int→Option Value} {Z:GZ} {E F:Nat→Prop} (H:Gr w g mp mw f fw Z E F) (p:Pt) (d n:Sv) (hs:wfi p.at'):
    Calls Tryz.prog 309 #[.pointer (some ⟨g,0,none⟩), .agg (p.cs d n).toArray] w fun e w'=>e= .returned (.agg (shC (shB (ahd Z.l p)) (shK (ahd Z.l p))).toArray)∧Below w.heap.size w w':=by
  have tok:True:=trivial
  have tok2:True:=trivial
  have tok3:True:=trivial
  go_enter Tryz.func309,Tryz.ntmps309
  go_wp2_with (first
    | (clear tok;refine at_boxP (by rfl) _ (by rfl) p d n (by rfl) ?_;intro g1 w1 a1 a2 r1 b1)
    | (clear tok2;refine at_newC 279 2 _ srtS (by rfl) (by rfl) ?_;intro g2 w2 a3 a4 r2 b2)
    | (clear tok3;refine at_newC 279 2 _ srtS (by rfl) (by rfl) ?_;intro g3 w3 a5 a6 r3 b3))
  replace r1:=(r1.later b2).later b3
  replace r2:=r2.later b3
  have b9:Below w.heap.size w w3:=bnext (bnext b1 b2 (Nat.le_refl _)) b3 (Nat.le_refl _)
  have H3:=H.later b9
  obtain⟨⟨va,vn,vc⟩,e1,ov,iv,hob⟩:=H3.wait p.at'
  have hvn:(wtP Z.l p.at').length=vn:=by rw [← wts_len];exact iv.i.len
  simp only at e1
  refine wp_region_held_drew (S:=fun u=>Below w3.heap.size w3 u) (by kernel_rfl) (Below.refl _ _).drew (fun hHeld=>?_)
  refine tk (i:=0) (oi:=⟨some 8, .move (.tmp 0),92,_,#[],none⟩) (v:= .pointer (some ⟨g,0,none⟩)) rfl (Or.inl ⟨by rfl,?_⟩) hHeld ?_
  · intro u hu
    go_simp
  try simp only [zp,zn,zq,zr,zs]
  refine tk (i:=1) (oi:=⟨some 9, .nilCheck (.tmp 8),0,_,#[⟨0, .data⟩],none⟩) (v:= .pointer (some ⟨g,0,none⟩)) rfl (Or.inl ⟨by rfl,?_⟩) hHeld ?_
  · intro u hu
    go_simp
  try simp only [zp,zn,zq,zr,zs]
  refine tk (i:=2) (oi:=⟨some 10, .fieldAddr 189 (.tmp 9) 2,0,_,#[⟨1, .data⟩],none⟩) (v:= .pointer (some ⟨g,2,none⟩)) rfl (Or.inl ⟨by rfl,?_⟩) hHeld ?_
  · intro u hu
    go_simp
  try simp only [zp,zn,zq,zr,zs]
  refine tk (i:=3) (oi:=⟨some 11, .load 187 (.tmp 10),187,_,#[⟨2, .data⟩],none⟩) (v:= .map (some mw)) rfl (Or.inl ⟨by rfl,?_⟩) hHeld ?_
  · intro u hu
    have x1:=(H3.later hu).cells.2.2;go_simp
  try simp only [zp,zn,zq,zr,zs]
  refine tk (i:=4) (oi:=⟨some 12, .fieldAddr 56 (.tmp 3) 1,0,_,#[],none⟩) (v:= .pointer (some ⟨g1,1,none⟩)) rfl (Or.inl ⟨by rfl,?_⟩) hHeld ?_
  · intro u hu
    go_simp
  try simp only [zp,zn,zq,zr,zs]
  refine tk (i:=5) (oi:=⟨some 13, .load 3 (.tmp 12),3,_,#[⟨4, .data⟩],none⟩) (v:= .int .i64 p.at') rfl (Or.inl ⟨by rfl,?_⟩) hHeld ?_
  · intro u hu
    have x1:=(Pt.cells (r1.later hu)).2.1;go_simp
  try simp only [zp,zn,zq,zr,zs]
  refine tk (i:=6) (oi:=⟨some 14, .lookup 187 (.tmp 11) (.tmp 13) false,54,_,#[⟨3, .data⟩,⟨5, .data⟩],none⟩) (v:= .slice va vn vc) rfl
    (yields_M' 187 54 uWm _ zI (by rfl) _ _ (by rfl) mw fw (by rfl) p.at' (by rfl) hs (fun u hu=>(H3.later hu).wm) _ e1) hHeld ?_
  try simp only [zp,zn,zq,zr,zs]
  refine tk (i:=7) (oi:=⟨some 15, .call { callee:=Callee.builtin Builtin.len,args:=#[.tmp 14],argTypes:=#[54]},3,_,#[⟨6, .data⟩],none⟩) (v:= .int .i64 (vn:Int)) rfl (Or.inl ⟨by rfl,?_⟩) hHeld ?_
  · intro u hu
    go_simp
  try simp only [zp,zn,zq,zr,zs]
  refine tk (i:=8) (oi:=⟨some 16, .move (.const (Value.int IntKind.i64 0)),3,_,#[],none⟩) (v:= .int .i64 0) rfl (Or.inl ⟨by rfl,?_⟩) hHeld ?_
  · intro u hu
    go_simp
  try simp only [zp,zn,zq,zr,zs]
  refine wpAnyH_done (by kernel_rfl) ?_ _
  go_wp2_with fail
  subst hvn
  have b8:Below w.heap.size w w3.drew:=b9.drew
  have st0:Stp (fun x=>x=g3) w3 w3.drew:=(Stp.refl _ w3).drew
  have r30:=r3.step (Stp.refl (fun _=>False) w3).drew id
  have hg3:∀ x,x < w.heap.size→x≠g3:=fun x hx e=>by have:=b1.size;have:=b2.size;omega
  clear hHeld e1 ov
  have hfew:=H.ok.fewW p.at'
  go_loopw [16] (fun x wr=>∃ k:Nat,k≤(wtP Z.l p.at').length∧x= .int .i64 (k:Int)∧Stp (fun x=>x=g3) w3 wr∧Cs wr g3 (shC (shB ((wtP Z.l p.at').take k)) (shK ((wtP Z.l p.at').take k)))∧∀ q ∈ (wtP Z.l p.at').take k,q.id < p.id) (fun v _=>(wtP Z.l p.at').length - (intOf v).toNat)
  case atStart=>exact⟨0,Nat.zero_le _,rfl,st0,r30,fun q hq=>by cases hq⟩
  case round=>
    obtain⟨k,hk,rfl,st,rs,hlt⟩:=hrel
    have H4:=H3.step st (fun x hx=>hg3 x (H.lt x hx)) (fun x hx=>hg3 x (H.el x hx))
    have r14:=r1.step st (by omega)
    have r24:=r2.step st (by omega)
    by_cases hkl:k < (wtP Z.l p.at').length
    · have iv4:Ins wr va (wtP Z.l p.at').length vc (wts Z.l p.at'):=iv.i.step st (fun x hn e=>hg3 _ (H.lt _ (hob x.block (by simp only at e;rw [e];rfl)).1))
      obtain⟨b,o,e,hcs⟩:=iv4.cell (by omega)
      have ck:=hcs k hkl
      rw [wts_get hkl]at ck
      have hq:=wtP_mem.1 (List.getElem_mem hkl)
      have hcut:=ahd_cut (p:=p) H.ok.srt k hk hlt
      have htk:(wtP Z.l p.at').take (k+1)=(wtP Z.l p.at').take k++ [(wtP Z.l p.at')[k]]:=by
        rw [List.take_add_one,List.getElem?_eq_getElem hkl];rfl
      obtain⟨d4,n4,e4,m4,_⟩:=H4.look ((wtP Z.l p.at')[k]).id
      rw [H.ok.gt_of hq.1]at e4 m4
      have hfq:=H.ok.ft _ hq.1
      have hwq:=(H.ok.wfp hq.1).i
      have hsh:=sh_lt ((wtP Z.l p.at').take k) (fun q hq=>H.ok.ft q (wtP_mem.1 (List.mem_of_mem_take hq)).1)
      have hx1:oB (shB ((wtP Z.l p.at').take k)) ((wtP Z.l p.at')[k])=shB ((wtP Z.l p.at').take (k+1)):=by rw [htk,shB_snoc];rfl
      have hx2:oK (shK ((wtP Z.l p.at').take k)) ((wtP Z.l p.at')[k])=shK ((wtP Z.l p.at').take (k+1)):=by rw [htk,shK_snoc];rfl
      have hlt1:((wtP Z.l p.at')[k]).id < p.id→∀ q ∈ (wtP Z.l p.at').take (k+1),q.id < p.id:=fun h q hq=>by
        rw [htk]at hq
        rcases List.mem_append.1 hq with h1 | h1
        · exact hlt q h1
        · rw [List.mem_singleton.1 h1];exact h
      replace hcut:Hid (p.id≤((wtP Z.l p.at')[k]).id→ahd Z.l p=(wtP Z.l p.at').take k):=fun h=>hcut (fun _=>h)
      generalize (wtP Z.l p.at')[k]=q at *
      subst e
      have a9:(k:Int) < ((wtP Z.l p.at').length:Int):=by omega
      obtain⟨_,_,_,_,_,_,_,_,_⟩:=Pt.cells r14
      clear hcs iv4 htk
      by_cases hc:p.id≤q.id
      · rw [← hcut.out hc]at rs
        clear hlt hsh
        go_wp2_with (first
          | (refine at_getC 279 2 _ srtS (by rfl) _ (by rfl) g3 (by rfl) _ rs rfl ?_)
          | (refine at_putC 279 2 _ srtS (by rfl) _ _ (by rfl) g2 (by rfl) _ (by rfl) rfl (shC_one _ _) _ r24 rfl ?_;intro w6 r6 s6))
        refine bodyPost_ret (retC srtS rfl rfl r6 rfl) rfl ⟨rfl,?_⟩
        exact(((Stp.of_below b9 (fun _=>False)).next st (fun x e=> .inr (by have:=b1.size;have:=b2.size;omega))).next s6 (fun x e=> .inr (by have:=b1.size;omega))).below (Nat.le_refl _) (fun x e=>e.elim)
      · have hc':q.id < p.id:=by omega
        have hlt2:=hlt1 hc'
        have hW:=with_any (shB ((wtP Z.l p.at').take k)) (shK ((wtP Z.l p.at').take k)) q d4 n4
        clear hcut hlt hlt1
        go_wp2_with fail
        refine wp_region_last (S:=fun u=>Below wr.heap.size wr u) _ _ (by simp only [List.pop_toArray,List.dropLast_cons_cons,List.dropLast_singleton];rfl) (by simp only [List.back?_toArray,List.getLast?_cons_cons,List.getLast?_singleton];rfl) (by kernel_rfl) (by kernel_rfl) (Below.refl _ _).drew (fun hHeld=>?_)
        refine tk (i:=0) (oi:=⟨some 24, .load 279 (.tmp 5),279,_,#[],none⟩) (v:= .agg (shC (shB ((wtP Z.l p.at').take k)) (shK ((wtP Z.l p.at').take k))).toArray) rfl
          (yields_C 279 2 _ srtS (by rfl) _ (by rfl) g3 (by rfl) _ rfl (fun u hu=>rs.later hu)) hHeld ?_
        try simp only [zp,zn,zq,zr,zs]
        refine tk (i:=1) (oi:=⟨some 25, .move (.tmp 0),92,_,#[],none⟩) (v:= .pointer (some ⟨g,0,none⟩)) rfl (Or.inl ⟨by rfl,?_⟩) hHeld ?_
        · intro u hu
          go_simp
        try simp only [zp,zn,zq,zr,zs]
        refine tk (i:=2) (oi:=⟨some 26, .nilCheck (.tmp 25),0,_,#[⟨1, .data⟩],none⟩) (v:= .pointer (some ⟨g,0,none⟩)) rfl (Or.inl ⟨by rfl,?_⟩) hHeld ?_
        · intro u hu
          go_simp
        try simp only [zp,zn,zq,zr,zs]
        refine tk (i:=3) (oi:=⟨some 27, .fieldAddr 189 (.tmp 26) 1,0,_,#[⟨2, .data⟩],none⟩) (v:= .pointer (some ⟨g,1,none⟩)) rfl (Or.inl ⟨by rfl,?_⟩) hHeld ?_
        · intro u hu
          go_simp
        try simp only [zp,zn,zq,zr,zs]
        refine tk (i:=4) (oi:=⟨some 28, .load 186 (.tmp 27),186,_,#[⟨3, .data⟩],none⟩) (v:= .map (some mp)) rfl (Or.inl ⟨by rfl,?_⟩) hHeld ?_
        · intro u hu
          have x1:=(H4.later hu).cells.2.1;go_simp
        try simp only [zp,zn,zq,zr,zs]
        refine tk (i:=5) (oi:=⟨some 29, .move (.tmp 7),3,_,#[],none⟩) (v:= .int .i64 q.id) rfl (Or.inl ⟨by rfl,?_⟩) hHeld ?_
        · intro u hu
          go_simp
        try simp only [zp,zn,zq,zr,zs]
        refine tk (i:=6) (oi:=⟨some 30, .lookup 186 (.tmp 28) (.tmp 29) false,56,_,#[⟨4, .data⟩,⟨5, .data⟩],none⟩) (v:= .agg (q.cs d4 n4).toArray) rfl
          (yields_M' 186 56 uPm _ zP (by rfl) _ _ (by rfl) mp f (by rfl) q.id (by rfl) hwq (fun u hu=>(H4.later hu).pm) _ e4) hHeld ?_
        try simp only [zp,zn,zq,zr,zs]
        refine wpAnyH_ready (rs:= [7]) (by kernel_rfl) (by simp) ?_
        refine(AllReadyH.cons (o:=⟨some 31, .call { callee:=Callee.value (.func 211),args:=#[.tmp 24, .tmp 30],argTypes:=#[279,56]},279,_,#[⟨0, .data⟩,⟨6, .data⟩],none⟩) rfl (fun K hK=>?_) AllReadyH.nil)
        go_simp
        refine(hW _ hsh.1 hsh.2 hfq m4.bs.len.symm).mono ?_
        rintro e w5 ⟨rfl,q5⟩
        try go_wp2_with fail
        refine hK.out _ _ (bnext (by assumption) q5 (Nat.le_refl _)) (fun hHeld=>?_)
        clear hK K
        try simp only [zp,zn,zq,zr,zs]
        refine wpAnyH_done (by kernel_rfl) ?_ _
        have rs5:=rs.later hHeld
        clear hx1 hx2 hW H4 r14 r24 hsh rs
        show wpList _ _ _ [_] _ _
        refine at_putC 279 2 _ srtS (by rfl) _ _ (by rfl) g3 (by rfl) _ (by rfl) rfl (shC_one _ _) _ rs5 rfl ?_
        intro w6 r6 s6
        go_wp2_with fail
        go_roundw
        case rel=>exact⟨k+1,by omega,by go_num,(st.next (Stp.of_below hHeld (fun _=>False)) (fun x e=>e.elim)).next s6 (fun x e=> .inl e),r6,hlt2⟩
        case measure=>simp [intOf];omega
    · have hk':k=(wtP Z.l p.at').length:=by omega
      have e5:=ahd_cut (p:=p) H.ok.srt k hk hlt (fun h=>absurd h hkl)
      rw [← e5]at rs
      subst hk'
      go_wp2_with (first
        | (refine at_getC 279 2 _ srtS (by rfl) _ (by rfl) g3 (by rfl) _ rs rfl ?_)
        | (refine at_putC 279 2 _ srtS (by rfl) _ _ (by rfl) g2 (by rfl) _ (by rfl) rfl (shC_one _ _) _ r24 rfl ?_;intro w6 r6 s6))
      refine bodyPost_ret (retC srtS rfl rfl r6 rfl) rfl ⟨rfl,?_⟩
      exact(((Stp.of_below b9 (fun _=>False)).next st (fun x e=> .inr (by have:=b1.size;have:=b2.size;omega))).next s6 (fun x e=> .inr (by have:=b1.size;omega))).below (Nat.le_refl _) (fun x e=>e.elim)
structure RdI (w:World) (B g2:Nat) (l:List Pt) (s:Int) (wr:World) (v:Value) (k:Nat) (late out:List Pt):Prop where
  le:k≤(wtP l s).length
  run:rdS l [] (wtP l s)=out++rdS l late ((wtP l s).drop k)
  lt:∀ q ∈ late,q ∈ wtP l s
  fl:out.length≤k
  ow:OwV wr v (ids out)
  nw:New B v
  bs:B≤wr.heap.size
  cs:Cs wr g2 (shC (shB late) (shK late))
  b:Below w.heap.size w wr
section
variable {w wr w' : World} {B g2 : Nat} {l : List Pt} {s : Int} {v : Value} {k : Nat} {late out : List Pt}
theorem RdI.later (h:RdI w B g2 l s wr v k late out) (b:Below wr.heap.size wr w'):RdI w B g2 l s w' v k late out:=
  ⟨h.le,h.run,h.lt,h.fl,h.ow.later b,h.nw,Nat.le_trans h.bs b.size,h.cs.later b,bnext h.b b (Nat.le_refl _)⟩
theorem RdI.less (h:RdI w B g2 l s wr v k late out) (hk:k < (wtP l s).length) (hc:(held l (wtP l s)[k]||late.any (fun q=>meet q (wtP l s)[k]))=true) (hg:g2 < B) (hw:w.heap.size≤g2)
    (st:Stp (fun x=>x=g2) wr w') (hC:Cs w' g2 (shC (shB (late++ [(wtP l s)[k]])) (shK (late++ [(wtP l s)[k]])))):RdI w B g2 l s w' v (k+1) (late++ [(wtP l s)[k]]) out:=by
  refine⟨hk,?_,?_,by have:=h.fl;omega,h.ow.step st (fun r hr e=>by have:=h.nw r hr;omega),h.nw,Nat.le_trans h.bs st.size,hC,?_⟩
  · rw [h.run,List.drop_eq_getElem_cons hk,rdS,if_pos hc]
  · intro q hq
    rcases List.mem_append.1 hq with h1 | h1
    · exact h.lt q h1
    · rw [List.mem_singleton.1 h1];exact List.getElem_mem hk
  · exact((Stp.of_below h.b (fun _=>False)).next st (fun x e=> .inr (by omega))).below (Nat.le_refl _) (fun x e=>e.elim)
theorem RdI.more {v':Value} {w1:World} (h:RdI w B g2 l s wr v k late out) (hk:k < (wtP l s).length) (hc:(held l (wtP l s)[k]||late.any (fun q=>meet q (wtP l s)[k]))=false) (hg:g2 < B) (hw:w.heap.size≤g2) (b1:Below wr.heap.size wr w1)
    (hA:Apd w1 B 3 1 v (ids out).length 1 ((ids out).map (Value.int .i64)++ [.int .i64 ((wtP l s)[k]).id]) v' w'):RdI w B g2 l s w' v' (k+1) late (out++ [(wtP l s)[k]]):=by
  obtain⟨h1,h2,h3,h4,_⟩:=hA
  have h':=h.later b1
  refine⟨hk,?_,h.lt,by have:=h.fl;simp;omega,?_,h2,Nat.le_trans h'.bs h4.size,h'.cs.step h4 (fun e=>by have:=h.nw g2 e;omega),?_⟩
  · rw [h.run,List.drop_eq_getElem_cons hk,rdS,if_neg (by rw [hc];simp)];simp
  · have e:ids (out++ [(wtP l s)[k]])=ids out++ [((wtP l s)[k]).id]:=by unfold ids;simp
    unfold OwV
    rw [e];simpa using h1
  · exact((Stp.of_below h'.b (fun _=>False)).next h4 (fun x e=> .inr (by have:=h.nw x e;omega))).below (Nat.le_refl _) (fun x e=>e.elim)
end
set_option maxRecDepth 100000 in
set_option maxHeartbeats 4000000 in
theorem ready_any {w:World} {g mp mw:Nat} {f fw:Int→Option Value} {Z:GZ} {E F:Nat→Prop} (H:Gr w g mp mw f fw Z E F) (s:Int) (hs:wfi s) (hnl:∀ p ∈ Z.l,p.needs.length≤100000):
    Calls Tryz.prog 215 #[.pointer (some ⟨g,0,none⟩), .int .i64 s] w fun e w'=>∃ v,e= .returned v∧OwV w' v (rdy Z.l s)∧New w.heap.size v∧Below w.heap.size w w':=by
  have tok:True:=trivial
  have tok2:True:=trivial
  obtain⟨z0,z1,z2⟩:=H.cells
  obtain⟨⟨va,vn,vc⟩,e1,ov,iv,hob⟩:=H.wait s
  simp only at e1
  go_enter Tryz.func215,Tryz.ntmps215
  go_wp2_with (first
    | (clear tok;refine at_newC 279 2 _ srtS (by rfl) (by rfl) ?_;intro g2 w2 a3 a4 r2 b2;have H2:=H.later b2;have hwm:=H2.wm;clear z0 z1 z2;obtain⟨z0,z1,z2⟩:=H2.cells)
    | (clear tok2;refine at_look1 187 54 uWm _ zI (by rfl) _ _ (by rfl) mw fw (by rfl) hwm s (by rfl) hs _ e1 ?_))
  have hvn:(wtP Z.l s).length=vn:=by rw [← wts_len];exact iv.i.len
  subst hvn
  have hfew:=H.ok.fewW s
  have i0:RdI w w2.heap.size g2 Z.l s w2 (.slice none 0 0) 0 [] []:=⟨Nat.zero_le _,rfl,(fun q hq=>by cases hq),Nat.le_refl _,OwV.nil w2,(fun r e=>by cases e),Nat.le_refl _,r2,b2⟩
  clear hwm z0 z1 z2 e1 ov
  go_loopw [5,19] (fun v x wr=>∃ (k:Nat) (late out:List Pt) (sv:Sv),x= .int .i64 (k:Int)∧v= .slice sv.a sv.n sv.c∧RdI w w2.heap.size g2 Z.l s wr (.slice sv.a sv.n sv.c) k late out) (fun _ x _=>(wtP Z.l s).length - (intOf x).toNat)
  case atStart=>exact⟨0, [], [],Sv.nil,rfl,rfl,i0⟩
  case round=>
    obtain⟨k,late,out,sv,rfl,rfl,I⟩:=hrel
    by_cases hkl:k < (wtP Z.l s).length
    · have iv4:=iv.later I.b
      have H4:=H.later I.b
      obtain⟨b,o,e,hcs⟩:=iv4.i.cell (by simp only;omega)
      have ck:=hcs k (by simp only;omega)
      rw [wts_get hkl]at ck
      simp only at e
      have hq:=wtP_mem.1 (List.getElem_mem hkl)
      obtain⟨d4,n4,e4,m4,_⟩:=H4.look ((wtP Z.l s)[k]).id
      rw [H.ok.gt_of hq.1]at e4 m4
      have hfq:=H.ok.ft _ hq.1
      have hwq:=(H.ok.wfp hq.1).i
      have hnq:=hnl _ hq.1
      have hsh:=sh_lt late (fun q hq=>H.ok.ft q (wtP_mem.1 (I.lt q hq)).1)
      have hmt:=mtS_is (wtP Z.l s)[k] hfq late (fun r hr=>⟨H.ok.ft r (wtP_mem.1 (I.lt r hr)).1,by rw [(wtP_mem.1 (I.lt r hr)).2.1,hq.2.1]⟩)
      have hx1:oB (shB late) (wtP Z.l s)[k]=shB (late++ [(wtP Z.l s)[k]]):=by rw [shB_snoc];rfl
      have hx2:oK (shK late) (wtP Z.l s)[k]=shK (late++ [(wtP Z.l s)[k]]):=by rw [shK_snoc];rfl
      have nxL:=fun w6 (I6:RdI w w2.heap.size g2 Z.l s w6 (.slice sv.a sv.n sv.c) k late out) hc w7=>I6.less (w':=w7) hkl hc a4 a3
      have nxM:=fun w6 (I6:RdI w w2.heap.size g2 Z.l s w6 (.slice sv.a sv.n sv.c) k late out) hc v' w1 w7=>I6.more (v':=v') (w1:=w1) (w':=w7) hkl hc a4 a3
      have hW:=with_any (shB late) (shK late) (wtP Z.l s)[k] d4 n4
      have hM:=meets_any (shB late) (shK late) (wtP Z.l s)[k] d4 n4
      generalize (wtP Z.l s)[k]=q at *
      subst e
      have a9:(k:Int) < ((wtP Z.l s).length:Int):=by omega
      have pm4:=H4.pm
      obtain⟨z0,z1,z2⟩:=H4.cells
      have t1:True:=trivial
      have t2:True:=trivial
      have t3:True:=trivial
      have t4:True:=trivial
      have t5:True:=trivial
      have t6:True:=trivial
      have t7:True:=trivial
      have t8:True:=trivial
      have t9:True:=trivial
      clear hcs iv4 z0 z2
      have hbig:(ids out).length+1≤1000000:=by have:=I.fl;unfold ids;simp;omega
      have key:∀ w5 w6 g5,wr.heap.size≤g5→Below wr.heap.size wr w5→Stp (fun x=>x=g5) w5 w6→Below wr.heap.size wr w6:=fun w5 w6 g5 h1 h2 h3=>
        ((Stp.of_below h2 (fun _=>False)).next h3 (fun x e=> .inr (by omega))).below (Nat.le_refl _) (fun x e=>e.elim)
      cases hh:held Z.l q with
      | true=>
        have hcc:(held Z.l q||late.any fun r=>meet r q)=true:=by rw [hh];rfl
        clear t5 t6
        go_wp2_with (first
          | (clear t1;refine at_look1 186 56 uPm _ zP (by rfl) _ _ (by rfl) mp f (by rfl) pm4 q.id (by rfl) hwq _ e4 ?_)
          | (clear t2;refine at_newP (by rfl) (by rfl) ?_;intro g5 w5 a5 a6 r5 b5)
          | (clear t3;refine at_putP (by rfl) _ _ (by rfl) g5 (by rfl) q d4 n4 (by rfl) _ r5 rfl ?_;intro w6 r6 s6;have b6:=key w5 w6 g5 a5 b5 s6;replace m4:=m4.later b6;replace H4:=H4.later b6;replace I:=I.later b6;clear r5 s6 b5 pm4 z1 ck)
          | (clear t4;refine at_getP0 (by rfl) _ (by rfl) g5 (by rfl) q d4 n4 r6 ?_)
          | (go_at_call 271;refine(held_any H4 q d4 n4 m4.is hnq).mono ?_;rw [hh];rintro e w7 ⟨rfl,b7⟩;replace r6:=r6.later b7;replace I:=I.later b7;have cl:=I.cs)
          | (clear t7;refine at_getC 279 2 _ srtS (by rfl) _ (by rfl) g2 (by rfl) _ cl rfl ?_)
          | (clear t8;refine at_getP0 (by rfl) _ (by rfl) g5 (by rfl) q d4 n4 r6 ?_)
          | (go_at_call 211;refine(hW _ hsh.1 hsh.2 hfq m4.bs.len.symm).mono ?_;rw [hx1,hx2];rintro e w8 ⟨rfl,b8⟩;replace I:=I.later b8;have cl2:=I.cs)
          | (clear t9;refine at_putC 279 2 _ srtS (by rfl) _ _ (by rfl) g2 (by rfl) _ (by rfl) rfl (shC_one _ _) _ cl2 rfl ?_;intro w9 r9 s9;have I9:=nxL _ I hcc _ s9 r9;clear nxL nxM))
        go_roundw
        case rel=>exact⟨k+1,_,_,sv,by go_num,rfl,I9⟩
        case measure=>simp [intOf];omega
      | false=>
        cases hmm:mtS (shB late) (shK late) q with
        | true=>
          have hcc:(held Z.l q||late.any fun r=>meet r q)=true:=by rw [hh,← hmt,hmm];rfl
          go_wp2_with (first
            | (clear t1;refine at_look1 186 56 uPm _ zP (by rfl) _ _ (by rfl) mp f (by rfl) pm4 q.id (by rfl) hwq _ e4 ?_)
            | (clear t2;refine at_newP (by rfl) (by rfl) ?_;intro g5 w5 a5 a6 r5 b5)
            | (clear t3;refine at_putP (by rfl) _ _ (by rfl) g5 (by rfl) q d4 n4 (by rfl) _ r5 rfl ?_;intro w6 r6 s6;have b6:=key w5 w6 g5 a5 b5 s6;replace m4:=m4.later b6;replace H4:=H4.later b6;replace I:=I.later b6;clear r5 s6 b5 pm4 z1 ck)
            | (clear t4;refine at_getP0 (by rfl) _ (by rfl) g5 (by rfl) q d4 n4 r6 ?_)
            | (go_at_call 271;refine(held_any H4 q d4 n4 m4.is hnq).mono ?_;rw [hh];rintro e w7 ⟨rfl,b7⟩;replace r6:=r6.later b7;replace I:=I.later b7;have cl:=I.cs)
            | (clear t5;refine at_getC 279 2 _ srtS (by rfl) _ (by rfl) g2 (by rfl) _ cl rfl ?_)
            | (clear t6;refine at_getP0 (by rfl) _ (by rfl) g5 (by rfl) q d4 n4 r6 ?_)
            | (go_at_call 210;refine(hM _ hsh.1 hsh.2 hfq m4.bs.len.symm).mono ?_;rw [hmm];rintro e wb ⟨rfl,bb⟩;clear cl;replace r6:=r6.later bb;replace I:=I.later bb;have cl:=I.cs)
            | (clear t7;refine at_getC 279 2 _ srtS (by rfl) _ (by rfl) g2 (by rfl) _ cl rfl ?_)
            | (clear t8;refine at_getP0 (by rfl) _ (by rfl) g5 (by rfl) q d4 n4 r6 ?_)
            | (go_at_call 211;refine(hW _ hsh.1 hsh.2 hfq m4.bs.len.symm).mono ?_;rw [hx1,hx2];rintro e w8 ⟨rfl,b8⟩;replace I:=I.later b8;have cl2:=I.cs)
            | (clear t9;refine at_putC 279 2 _ srtS (by rfl) _ _ (by rfl) g2 (by rfl) _ (by rfl) rfl (shC_one _ _) _ cl2 rfl ?_;intro w9 r9 s9;have I9:=nxL _ I hcc _ s9 r9;clear nxL nxM))
          go_roundw
          case rel=>exact⟨k+1,_,_,sv,by go_num,rfl,I9⟩
          case measure=>simp [intOf];omega
        | false=>
          have hcc:(held Z.l q||late.any fun r=>meet r q)=false:=by rw [hh,← hmt,hmm];rfl
          go_wp2_with (first
            | (clear t1;refine at_look1 186 56 uPm _ zP (by rfl) _ _ (by rfl) mp f (by rfl) pm4 q.id (by rfl) hwq _ e4 ?_)
            | (clear t2;refine at_newP (by rfl) (by rfl) ?_;intro g5 w5 a5 a6 r5 b5)
            | (clear t3;refine at_putP (by rfl) _ _ (by rfl) g5 (by rfl) q d4 n4 (by rfl) _ r5 rfl ?_;intro w6 r6 s6;have b6:=key w5 w6 g5 a5 b5 s6;replace m4:=m4.later b6;replace H4:=H4.later b6;replace I:=I.later b6;clear r5 s6 b5 pm4 z1 ck)
            | (clear t4;refine at_getP0 (by rfl) _ (by rfl) g5 (by rfl) q d4 n4 r6 ?_)
            | (go_at_call 271;refine(held_any H4 q d4 n4 m4.is hnq).mono ?_;rw [hh];rintro e w7 ⟨rfl,b7⟩;replace r6:=r6.later b7;replace I:=I.later b7;have cl:=I.cs)
            | (clear t5;refine at_getC 279 2 _ srtS (by rfl) _ (by rfl) g2 (by rfl) _ cl rfl ?_)
            | (clear t6;refine at_getP0 (by rfl) _ (by rfl) g5 (by rfl) q d4 n4 r6 ?_)
            | (go_at_call 210;refine(hM _ hsh.1 hsh.2 hfq m4.bs.len.symm).mono ?_;rw [hmm];rintro e wb ⟨rfl,bb⟩;clear cl;replace r6:=r6.later bb;replace I:=I.later bb;have cl:=I.cs)
            | (at_builtin;refine at_appR elI w2.heap.size rfl _ _ (by rfl) (by rfl) (ro_later I.ow ((Below.refl _ wb).alloc (Nat.le_refl _) _)) I.nw (some ⟨wb.heap.size,0,none⟩) 1 [.int .i64 q.id] (by rfl) (by simp) (fun e=>by cases e) (fun ad e=>by injection e with e;subst e;exact cell_one_new _ _ _) (by simp [Value.oneCell']) hbig (Nat.le_trans I.bs (by simp)) ?_;intro v' w9 hA;have I9:=nxM _ I hcc v' _ w9 ((Below.refl _ wb).alloc (Nat.le_refl _) _) hA;obtain⟨xa,xn,xc,rfl⟩:=I9.ow.shape;clear nxL nxM hA))
          go_roundw
          case rel=>exact⟨k+1,_,_,⟨xa,xn,xc⟩,by go_num,rfl,I9⟩
          case measure=>simp [intOf];omega
    · have hk':k=(wtP Z.l s).length:=by have:=I.le;omega
      have e5:rdy Z.l s=ids out:=by unfold rdy;rw [I.run,List.drop_eq_nil_of_le (by omega),rdS,List.append_nil]
      have e5':Hid (rdy Z.l s=ids out):=e5
      clear e5
      subst hk'
      go_wp2
      go_returns
      refine⟨_,rfl,by rw [e5'.out];exact I.ow,fun r hr=>?_,I.b⟩
      have:=I.nw r hr;have:=b2.size;omega
end Go.Proofs.YtogdffonjhghcaaGreatDoor
