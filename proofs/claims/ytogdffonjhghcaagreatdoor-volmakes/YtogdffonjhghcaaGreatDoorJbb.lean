/-
  Texts of my own, joined: no statement is proved here.
-/
import Derived.Deep.RegionLaw
import Derived.OpenShut
import Derived.Lib.Walk
import Derived.SizedLaws
import Derived.Test.YtogdffonjhghcaaGreatDoorJav
import Derived.Test.YtogdffonjhghcaaGreatDoorJba
set_option linter.unusedSimpArgs false
set_option linter.unusedVariables false
namespace Go.Proofs.YtogdffonjhghcaaGreatDoor
open Go.ChangeShapes Go.WideShapes Go.ChangeAt Go.RowKit
set_option maxRecDepth 100000
section
variable {ops : Array Oper} {o : Oper} {a : Act} {w : World} {K : Act → World → Prop} {Q : Exit → Act → World → Prop} {R : Prop}
theorem Z4c (hgd:o.guard=none) (ho:o.op= .alloc 82)
 (h:∀ g w',w.heap.size≤g→g < w'.heap.size→Cs w' g [.int .u32 0]→Below w.heap.size w w'→K (a.put o.dst (.pointer (some ⟨g,0,none⟩))) w'):if Region.wanted o (yielded ops a.tmps)=true then Oper.wp Tryz.prog o a w K Q else R:=by
 have hw:Region.wanted o (yielded ops a.tmps)=true:=by simp [Region.wanted,hgd]
 rw [if_pos hw]
 have hz:(zeroValue 82).run Tryz.prog w= .ok (.int .u32 0) w:=by kernel_rfl
 have hi:(Instr.alloc 82 true (.tuple #[])).run Tryz.prog w= .ok (.pointer (some ⟨w.heap.size,0,none⟩)) (w.alloc (.cells [Value.int .u32 0].toArray 82)):=by
  unfold Instr.alloc;rw [Sem.run_bind,hz];rfl
 have hr:(execOp a.eval o).run Tryz.prog w= .ok (.value (.pointer (some ⟨w.heap.size,0,none⟩))) (w.alloc (.cells [Value.int .u32 0].toArray 82)):=by
  simp only [execOp,ho,Sem.run_bind,hi];rfl
 unfold Oper.wp
 rw [hr]
 exact h w.heap.size _ (Nat.le_refl _) (by simp) (Cs.made _ _ _ (by simp [Value.oneCell'])) ((Below.refl _ _).alloc (Nat.le_refl _) _)
end
theorem Z64 {w:World} {g:Nat} {v x:Value} {t:Nat} (h:Cs w g [v]):(storeVar 82 ⟨g,0,none⟩ (.int .u32 (t:Int))).run Tryz.prog w= .ok () (w.setCell ⟨g,0,none⟩ (.int .u32 (t:Int))):=by
 have h1:=h.cell 0 _ rfl
 have h2:=h.frozen 0
 go_simp
theorem Cs.stp {w:World} {g:Nat} {cs:List Value} (h:Cs w g cs) (i:Nat) (x:Value):Stp (fun y=>y=g) w (w.setCell ⟨g,i,none⟩ x):=(Stp.refl (fun y=>y=g) w).setCell (p:=⟨g,i,none⟩) (.inl rfl) x
theorem Z38 {w:World} {g g':Nat} {l:List UInt8} {v:Value} (h:Row w g l) (h':Cs w g' [v]) (hl:l.length≠1):g≠g':=fun e=>by
 subst e
 obtain⟨t9,h9⟩:=h'.here
 obtain⟨t8,h8⟩:=h
 rw [h9]at h8
 injection h8 with h8
 injection h8 with h8 _ _
 have:=congrArg Array.size h8
 simp at this
 omega
theorem Z5l.mono {w w':World} {F F':Nat→Prop} {fi:FuncId} {lb:Array Value} {q:Pt→Bool} (h:Z5l w F fi lb q) (k:∀ u,Stp F' w' u→Stp F w u):Z5l w' F' fi lb q:=fun u p d n hs hp=>h u p d n (k u hs) hp
set_option maxRecDepth 100000 in
set_option maxHeartbeats 4000000 in
theorem Zd5 {w:World} {E:Nat→Prop} {s:Sv} {L:List Pe} (H:Ps w E s L) (fi:FuncId) (lb:Array Value) (q:Pt→Bool) (b:Blk) (hq:Z5l w (fun x=>w.heap.size≤x) fi lb q) (eg:∀ args w,(callFunc fi args).run Tryz.prog w= .ok (.enter fi args) w) (hE:∀ x,E x→x < w.heap.size):
 Calls Tryz.prog 135 #[.agg b.cs.toArray, .slice s.a s.n s.c, .func (.func fi) #[] lb] w fun e w'=>e= .returned (.tuple #[.agg (nwB b ((pts L).filter q)).cs.toArray, .int .i64 (nwE ((pts L).filter q))])∧Below w.heap.size w w':=by
 have hb:=b.len
 have HT:=Zjz b
 have hlt:=Zs2 b
 have hN:Hid (nwB b ((pts L).filter q)=if nwE ((pts L).filter q)=0 then ovB (nT b) b ((pts L).filter q)else b):=by
  show _=_
  by_cases h:nwE ((pts L).filter q)=0
  · rw [if_pos h];unfold nwB;rw [if_pos (Zr3 h)]
  · rw [if_neg h,Zm7 h]
 have hR:=(nwB b ((pts L).filter q)).len
 generalize nwB b ((pts L).filter q)=R at *
 have HE:∀ (u:World) (gn gt:Nat),Below w.heap.size w u→w.heap.size≤gn→Row u gn b.l→u.cell? ⟨gt,0,none⟩=some (.int .u32 ((nT b:Nat):Int))→gt≠gn→_:=fun u gn gt hb2 h1 h2 h3 h4=>Zlm (H.later hb2) fi lb q b (nT b) gn gt (hq.mono fun v hv=>(Stp.of_below hb2 (fun x=>w.heap.size≤x)).next hv (fun x e=> .inl (by subst e;exact h1))) eg hlt h2 h3 (fun x hx e=>by have:=hE x hx;omega) h4
 generalize nT b=t at *
 generalize nwE ((pts L).filter q)=e0 at *
 generalize ovB t b ((pts L).filter q)=O at *
 obtain⟨sa,sn,sc⟩:=s
 simp only at HE
 have t1:True:=trivial
 have t2:True:=trivial
 go_enter Tryz.func135,Tryz.ntmps135
 go_wp2_with (first
  | (refine Z05 64 64 arrB (by rfl) _ (by rfl) b.l (by rfl) hb ?_;intro gb w1 a1 z1 r1 b1)
  | (clear t1;refine Z03 64 64 arrB (by rfl) (by rfl) ?_;intro gr W a2 z2 r2 b2))
 have r:=r1.later b2
 have hgr:w.heap.size≤gr:=by have:=b1.size;omega
 have B2:=Z01 b1 b2 (Nat.le_refl _)
 have hWs:=B2.size
 clear a1 z1 a2 z2 r1 b1 b2 H hq
 refine wp_region_held_drew (S:=fun u=>Below W.heap.size W u) (by kernel_rfl) (Below.refl _ _).drew (fun hHeld=>?_)
 rename_i K1 hK1
 have tail:∀ g8 g9 v,Row v g8 b.l→Cs v g9 [.int .u32 (t:Int)]→W.heap.size≤g8→W.heap.size≤g9→Below W.heap.size W v→
  K1 ⟨#[.agg b.cs.toArray, .slice sa sn sc, .func (.func fi) #[] lb, .pointer (some ⟨gb,0,none⟩),undef,undef, .pointer (some ⟨gr,0,none⟩), .int .i64 0, .pointer (some ⟨g8,0,none⟩), .pointer (some ⟨g9,0,none⟩),undef, .agg b.cs.toArray, .agg b.cs.toArray, .int .u32 (t:Int),undef,undef,undef,undef,undef,undef,undef,undef,undef], []⟩ v:=by
  intro g8 g9 v y8 y9 m8 m9 hH
  refine hK1 _ _ ?_
  have r0lt:gb < W.heap.size:=r.lt
  have r2lt:gr < W.heap.size:=r2.lt
  have rb:=r.later hH
  have rr:=r2.later hH
  have Bv:=Z01 B2 hH (Nat.le_refl _)
  have hne:g9≠g8:=(Z38 y8 y9 (by rw [hb];simp)).symm
  have HE':=HE v g8 g9 Bv (by omega) y8 (y9.cell 0 _ rfl) hne
  clear HE r r2 hK1 hHeld y9 HT
  by_cases h0:e0=0
  · subst h0
    have hN':Hid (R=O):=by show _=_;rw [hN.out,if_pos rfl]
    clear hN
    go_wp2_with (first
     | (go_at_call 191;refine HE'.mono ?_;rintro e v2 ⟨rfl,⟨X,x2,e2⟩,s2⟩
        obtain rfl:=e2 rfl
        rw [← hN'.out]at x2
        have rr2:=rr.step s2 (by omega)
        clear e2 hN')
     | (refine Z04 64 64 arrB (by rfl) _ (by rfl) g8 (by rfl) R.l x2 hR ?_)
     | (refine Z02 64 64 arrB (by rfl) _ _ (by rfl) gr (by rfl) R.l (by rfl) hR _ rr2 (by simp) ?_;intro w9 r9 s9))
    exact bodyPost_ret (Z0j arrB Tryz.results135 rfl rfl r9 hR) rfl ⟨rfl,(((Stp.of_below Bv (fun x=>w.heap.size≤x)).next s2 (fun x hx=> .inl (by subst hx;omega))).next s9 (fun x hx=> .inl (by subst hx;exact hgr))).below (Nat.le_refl _) (fun _ h=>h)⟩
  · have hN':R=b:=by rw [hN.out,if_neg h0]
    subst hN'
    clear hN
    go_wp2_with (first
     | (go_at_call 191;refine HE'.mono ?_;rintro e v2 ⟨rfl,_,s2⟩
        have rb2:=rb.step s2 (by omega)
        have rr2:=rr.step s2 (by omega))
     | (refine Z04 64 64 arrB (by rfl) _ (by rfl) gb (by rfl) R.l rb2 hR ?_)
     | (refine Z02 64 64 arrB (by rfl) _ _ (by rfl) gr (by rfl) R.l (by rfl) hR _ rr2 (by simp) ?_;intro w9 r9 s9))
    exact bodyPost_ret (Z0j arrB Tryz.results135 rfl rfl r9 hR) rfl ⟨rfl,(((Stp.of_below Bv (fun x=>w.heap.size≤x)).next s2 (fun x hx=> .inl (by subst hx;omega))).next s9 (fun x hx=> .inl (by subst hx;exact hgr))).below (Nat.le_refl _) (fun _ h=>h)⟩
 clear hK1
 refine tm 0 (.agg b.cs.toArray) rfl
  (Z0e 64 64 arrB (by rfl) (.tmp 3) rfl gb (by rfl) b.l hb (fun u hu=>r.later hu)) ?_
 try simp only [z]
 refine tm 1 (.agg b.cs.toArray) rfl
  (Z0e 64 64 arrB (by rfl) (.tmp 3) rfl gb (by rfl) b.l hb (fun u hu=>r.later hu)) ?_
 try simp only [z]
 refine wpAnyH_ready (rs:= [2,3,4]) (by kernel_rfl) (by simp) ?_
 refine(AllReadyH.cons (o:=⟨some 13, .call { callee:=Callee.value (.func 190),args:=#[.tmp 12],argTypes:=#[64]},82,_,#[⟨1, .data⟩],none⟩) rfl (fun K hK=>?_) (AllReadyH.cons (o:=⟨some 8, .alloc 64,0,_,#[],none⟩) rfl (fun K hK=>?_) (AllReadyH.cons (o:=⟨some 9, .alloc 82,0,_,#[],none⟩) rfl (fun K hK=>?_) AllReadyH.nil)))
 · skip
   go_simp
   refine(HT _).mono ?_
   rintro e v1 ⟨rfl,c1⟩
   try go_wp2_with fail
   try (have y3:=y3.later c1)
   try (have y4:=y4.later c1)
   refine hK.out _ _ (Z01 hHeld c1 (Nat.le_refl _)) (fun hHeld=>?_)
   clear hK K
   try simp only [z]
   refine wpAnyH_ready (rs:= [3,4]) (by kernel_rfl) (by simp) ?_
   refine(AllReadyH.cons (o:=⟨some 8, .alloc 64,0,_,#[],none⟩) rfl (fun K hK=>?_) (AllReadyH.cons (o:=⟨some 9, .alloc 82,0,_,#[],none⟩) rfl (fun K hK=>?_) AllReadyH.nil))
   · skip
     refine Z0m 64 64 arrB rfl rfl ?_
     intro g8 v3 a3 z3 y3 b3
     have m8:W.heap.size≤g8:=Nat.le_trans hHeld.size a3
     try (have y4:=y4.later b3)
     refine hK.out _ _ (Z01 hHeld b3 (Nat.le_refl _)) (fun hHeld=>?_)
     clear hK K
     try simp only [z]
     refine rd 4 rfl (fun K hK=>?_)
     refine Z4c rfl rfl ?_
     intro g9 v4 a4 z4 y4 b4
     have m9:W.heap.size≤g9:=Nat.le_trans hHeld.size a4
     try (have y3:=y3.later b4)
     refine hK.out _ _ (Z01 hHeld b4 (Nat.le_refl _)) (fun hHeld=>?_)
     clear hK K
     try simp only [z]
     refine rd 5 rfl (fun K hK=>?_)
     refine Z0h 64 64 arrB rfl (.tmp 8) (.tmp 11) rfl g8 (by rfl) b.l (by rfl) hb _ y3 (by simp) ?_
     intro v5 y5 s5
     have y4:=y4.step s5 (fun e=>Z38 y3 y4 (by simp) e.symm)
     refine hK.out _ _ (((Stp.of_below hHeld (fun x=>W.heap.size≤x)).next s5 (fun x hx=> .inl (by subst hx;exact m8))).below (Nat.le_refl _) (fun _ h=>h)) (fun hHeld=>?_)
     clear hK K
     try simp only [Act.put]
     refine rd 6 rfl (fun K hK=>?_)
     refine Z1x _ _ (.int .u32 (t:Int)) _ rfl _ _ (by rfl) (by rfl) (by rfl) (Z64 (x:=undef) y4) ?_
     have y6:=y4.set 0 (.int .u32 (t:Int)) rfl
     have s6:=y4.stp 0 (.int .u32 (t:Int))
     have y5:=y5.step s6 (fun e=>Z38 y5 y4 (by rw [hb];simp) e)
     refine hK.out _ _ (((Stp.of_below hHeld (fun x=>W.heap.size≤x)).next s6 (fun x hx=> .inl (by subst hx;exact m9))).below (Nat.le_refl _) (fun _ h=>h)) (fun hHeld=>?_)
     clear hK K
     try simp only [Act.put]
     refine wpAnyH_done (by kernel_rfl) ?_ _
     exact tail g8 g9 _ y5 y6 m8 m9 hHeld
   · skip
     refine Z4c rfl rfl ?_
     intro g9 v4 a4 z4 y4 b4
     have m9:W.heap.size≤g9:=Nat.le_trans hHeld.size a4
     try (have y3:=y3.later b4)
     refine hK.out _ _ (Z01 hHeld b4 (Nat.le_refl _)) (fun hHeld=>?_)
     clear hK K
     try simp only [z]
     refine rd 3 rfl (fun K hK=>?_)
     refine Z0m 64 64 arrB rfl rfl ?_
     intro g8 v3 a3 z3 y3 b3
     have m8:W.heap.size≤g8:=Nat.le_trans hHeld.size a3
     try (have y4:=y4.later b3)
     refine hK.out _ _ (Z01 hHeld b3 (Nat.le_refl _)) (fun hHeld=>?_)
     clear hK K
     try simp only [z]
     refine rd 5 rfl (fun K hK=>?_)
     refine Z0h 64 64 arrB rfl (.tmp 8) (.tmp 11) rfl g8 (by rfl) b.l (by rfl) hb _ y3 (by simp) ?_
     intro v5 y5 s5
     have y4:=y4.step s5 (fun e=>Z38 y3 y4 (by simp) e.symm)
     refine hK.out _ _ (((Stp.of_below hHeld (fun x=>W.heap.size≤x)).next s5 (fun x hx=> .inl (by subst hx;exact m8))).below (Nat.le_refl _) (fun _ h=>h)) (fun hHeld=>?_)
     clear hK K
     try simp only [Act.put]
     refine rd 6 rfl (fun K hK=>?_)
     refine Z1x _ _ (.int .u32 (t:Int)) _ rfl _ _ (by rfl) (by rfl) (by rfl) (Z64 (x:=undef) y4) ?_
     have y6:=y4.set 0 (.int .u32 (t:Int)) rfl
     have s6:=y4.stp 0 (.int .u32 (t:Int))
     have y5:=y5.step s6 (fun e=>Z38 y5 y4 (by rw [hb];simp) e)
     refine hK.out _ _ (((Stp.of_below hHeld (fun x=>W.heap.size≤x)).next s6 (fun x hx=> .inl (by subst hx;exact m9))).below (Nat.le_refl _) (fun _ h=>h)) (fun hHeld=>?_)
     clear hK K
     try simp only [Act.put]
     refine wpAnyH_done (by kernel_rfl) ?_ _
     exact tail g8 g9 _ y5 y6 m8 m9 hHeld
 · skip
   refine Z0m 64 64 arrB rfl rfl ?_
   intro g8 v3 a3 z3 y3 b3
   have m8:W.heap.size≤g8:=Nat.le_trans hHeld.size a3
   try (have y4:=y4.later b3)
   refine hK.out _ _ (Z01 hHeld b3 (Nat.le_refl _)) (fun hHeld=>?_)
   clear hK K
   try simp only [z]
   refine wpAnyH_ready (rs:= [2,4]) (by kernel_rfl) (by simp) ?_
   refine(AllReadyH.cons (o:=⟨some 13, .call { callee:=Callee.value (.func 190),args:=#[.tmp 12],argTypes:=#[64]},82,_,#[⟨1, .data⟩],none⟩) rfl (fun K hK=>?_) (AllReadyH.cons (o:=⟨some 9, .alloc 82,0,_,#[],none⟩) rfl (fun K hK=>?_) AllReadyH.nil))
   · skip
     go_simp
     refine(HT _).mono ?_
     rintro e v1 ⟨rfl,c1⟩
     try go_wp2_with fail
     try (have y3:=y3.later c1)
     try (have y4:=y4.later c1)
     refine hK.out _ _ (Z01 hHeld c1 (Nat.le_refl _)) (fun hHeld=>?_)
     clear hK K
     try simp only [z]
     refine rd 4 rfl (fun K hK=>?_)
     refine Z4c rfl rfl ?_
     intro g9 v4 a4 z4 y4 b4
     have m9:W.heap.size≤g9:=Nat.le_trans hHeld.size a4
     try (have y3:=y3.later b4)
     refine hK.out _ _ (Z01 hHeld b4 (Nat.le_refl _)) (fun hHeld=>?_)
     clear hK K
     try simp only [z]
     refine rd 5 rfl (fun K hK=>?_)
     refine Z0h 64 64 arrB rfl (.tmp 8) (.tmp 11) rfl g8 (by rfl) b.l (by rfl) hb _ y3 (by simp) ?_
     intro v5 y5 s5
     have y4:=y4.step s5 (fun e=>Z38 y3 y4 (by simp) e.symm)
     refine hK.out _ _ (((Stp.of_below hHeld (fun x=>W.heap.size≤x)).next s5 (fun x hx=> .inl (by subst hx;exact m8))).below (Nat.le_refl _) (fun _ h=>h)) (fun hHeld=>?_)
     clear hK K
     try simp only [Act.put]
     refine rd 6 rfl (fun K hK=>?_)
     refine Z1x _ _ (.int .u32 (t:Int)) _ rfl _ _ (by rfl) (by rfl) (by rfl) (Z64 (x:=undef) y4) ?_
     have y6:=y4.set 0 (.int .u32 (t:Int)) rfl
     have s6:=y4.stp 0 (.int .u32 (t:Int))
     have y5:=y5.step s6 (fun e=>Z38 y5 y4 (by rw [hb];simp) e)
     refine hK.out _ _ (((Stp.of_below hHeld (fun x=>W.heap.size≤x)).next s6 (fun x hx=> .inl (by subst hx;exact m9))).below (Nat.le_refl _) (fun _ h=>h)) (fun hHeld=>?_)
     clear hK K
     try simp only [Act.put]
     refine wpAnyH_done (by kernel_rfl) ?_ _
     exact tail g8 g9 _ y5 y6 m8 m9 hHeld
   · skip
     refine Z4c rfl rfl ?_
     intro g9 v4 a4 z4 y4 b4
     have m9:W.heap.size≤g9:=Nat.le_trans hHeld.size a4
     try (have y3:=y3.later b4)
     refine hK.out _ _ (Z01 hHeld b4 (Nat.le_refl _)) (fun hHeld=>?_)
     clear hK K
     try simp only [z]
     refine rd 2 rfl (fun K hK=>?_)
     go_simp
     refine(HT _).mono ?_
     rintro e v1 ⟨rfl,c1⟩
     try go_wp2_with fail
     try (have y3:=y3.later c1)
     try (have y4:=y4.later c1)
     refine hK.out _ _ (Z01 hHeld c1 (Nat.le_refl _)) (fun hHeld=>?_)
     clear hK K
     try simp only [z]
     refine rd 5 rfl (fun K hK=>?_)
     refine Z0h 64 64 arrB rfl (.tmp 8) (.tmp 11) rfl g8 (by rfl) b.l (by rfl) hb _ y3 (by simp) ?_
     intro v5 y5 s5
     have y4:=y4.step s5 (fun e=>Z38 y3 y4 (by simp) e.symm)
     refine hK.out _ _ (((Stp.of_below hHeld (fun x=>W.heap.size≤x)).next s5 (fun x hx=> .inl (by subst hx;exact m8))).below (Nat.le_refl _) (fun _ h=>h)) (fun hHeld=>?_)
     clear hK K
     try simp only [Act.put]
     refine rd 6 rfl (fun K hK=>?_)
     refine Z1x _ _ (.int .u32 (t:Int)) _ rfl _ _ (by rfl) (by rfl) (by rfl) (Z64 (x:=undef) y4) ?_
     have y6:=y4.set 0 (.int .u32 (t:Int)) rfl
     have s6:=y4.stp 0 (.int .u32 (t:Int))
     have y5:=y5.step s6 (fun e=>Z38 y5 y4 (by rw [hb];simp) e)
     refine hK.out _ _ (((Stp.of_below hHeld (fun x=>W.heap.size≤x)).next s6 (fun x hx=> .inl (by subst hx;exact m9))).below (Nat.le_refl _) (fun _ h=>h)) (fun hHeld=>?_)
     clear hK K
     try simp only [Act.put]
     refine wpAnyH_done (by kernel_rfl) ?_ _
     exact tail g8 g9 _ y5 y6 m8 m9 hHeld
 · skip
   refine Z4c rfl rfl ?_
   intro g9 v4 a4 z4 y4 b4
   have m9:W.heap.size≤g9:=Nat.le_trans hHeld.size a4
   try (have y3:=y3.later b4)
   refine hK.out _ _ (Z01 hHeld b4 (Nat.le_refl _)) (fun hHeld=>?_)
   clear hK K
   try simp only [z]
   refine wpAnyH_ready (rs:= [2,3]) (by kernel_rfl) (by simp) ?_
   refine(AllReadyH.cons (o:=⟨some 13, .call { callee:=Callee.value (.func 190),args:=#[.tmp 12],argTypes:=#[64]},82,_,#[⟨1, .data⟩],none⟩) rfl (fun K hK=>?_) (AllReadyH.cons (o:=⟨some 8, .alloc 64,0,_,#[],none⟩) rfl (fun K hK=>?_) AllReadyH.nil))
   · skip
     go_simp
     refine(HT _).mono ?_
     rintro e v1 ⟨rfl,c1⟩
     try go_wp2_with fail
     try (have y3:=y3.later c1)
     try (have y4:=y4.later c1)
     refine hK.out _ _ (Z01 hHeld c1 (Nat.le_refl _)) (fun hHeld=>?_)
     clear hK K
     try simp only [z]
     refine rd 3 rfl (fun K hK=>?_)
     refine Z0m 64 64 arrB rfl rfl ?_
     intro g8 v3 a3 z3 y3 b3
     have m8:W.heap.size≤g8:=Nat.le_trans hHeld.size a3
     try (have y4:=y4.later b3)
     refine hK.out _ _ (Z01 hHeld b3 (Nat.le_refl _)) (fun hHeld=>?_)
     clear hK K
     try simp only [z]
     refine rd 5 rfl (fun K hK=>?_)
     refine Z0h 64 64 arrB rfl (.tmp 8) (.tmp 11) rfl g8 (by rfl) b.l (by rfl) hb _ y3 (by simp) ?_
     intro v5 y5 s5
     have y4:=y4.step s5 (fun e=>Z38 y3 y4 (by simp) e.symm)
     refine hK.out _ _ (((Stp.of_below hHeld (fun x=>W.heap.size≤x)).next s5 (fun x hx=> .inl (by subst hx;exact m8))).below (Nat.le_refl _) (fun _ h=>h)) (fun hHeld=>?_)
     clear hK K
     try simp only [Act.put]
     refine rd 6 rfl (fun K hK=>?_)
     refine Z1x _ _ (.int .u32 (t:Int)) _ rfl _ _ (by rfl) (by rfl) (by rfl) (Z64 (x:=undef) y4) ?_
     have y6:=y4.set 0 (.int .u32 (t:Int)) rfl
     have s6:=y4.stp 0 (.int .u32 (t:Int))
     have y5:=y5.step s6 (fun e=>Z38 y5 y4 (by rw [hb];simp) e)
     refine hK.out _ _ (((Stp.of_below hHeld (fun x=>W.heap.size≤x)).next s6 (fun x hx=> .inl (by subst hx;exact m9))).below (Nat.le_refl _) (fun _ h=>h)) (fun hHeld=>?_)
     clear hK K
     try simp only [Act.put]
     refine wpAnyH_done (by kernel_rfl) ?_ _
     exact tail g8 g9 _ y5 y6 m8 m9 hHeld
   · skip
     refine Z0m 64 64 arrB rfl rfl ?_
     intro g8 v3 a3 z3 y3 b3
     have m8:W.heap.size≤g8:=Nat.le_trans hHeld.size a3
     try (have y4:=y4.later b3)
     refine hK.out _ _ (Z01 hHeld b3 (Nat.le_refl _)) (fun hHeld=>?_)
     clear hK K
     try simp only [z]
     refine rd 2 rfl (fun K hK=>?_)
     go_simp
     refine(HT _).mono ?_
     rintro e v1 ⟨rfl,c1⟩
     try go_wp2_with fail
     try (have y3:=y3.later c1)
     try (have y4:=y4.later c1)
     refine hK.out _ _ (Z01 hHeld c1 (Nat.le_refl _)) (fun hHeld=>?_)
     clear hK K
     try simp only [z]
     refine rd 5 rfl (fun K hK=>?_)
     refine Z0h 64 64 arrB rfl (.tmp 8) (.tmp 11) rfl g8 (by rfl) b.l (by rfl) hb _ y3 (by simp) ?_
     intro v5 y5 s5
     have y4:=y4.step s5 (fun e=>Z38 y3 y4 (by simp) e.symm)
     refine hK.out _ _ (((Stp.of_below hHeld (fun x=>W.heap.size≤x)).next s5 (fun x hx=> .inl (by subst hx;exact m8))).below (Nat.le_refl _) (fun _ h=>h)) (fun hHeld=>?_)
     clear hK K
     try simp only [Act.put]
     refine rd 6 rfl (fun K hK=>?_)
     refine Z1x _ _ (.int .u32 (t:Int)) _ rfl _ _ (by rfl) (by rfl) (by rfl) (Z64 (x:=undef) y4) ?_
     have y6:=y4.set 0 (.int .u32 (t:Int)) rfl
     have s6:=y4.stp 0 (.int .u32 (t:Int))
     have y5:=y5.step s6 (fun e=>Z38 y5 y4 (by rw [hb];simp) e)
     refine hK.out _ _ (((Stp.of_below hHeld (fun x=>W.heap.size≤x)).next s6 (fun x hx=> .inl (by subst hx;exact m9))).below (Nat.le_refl _) (fun _ h=>h)) (fun hHeld=>?_)
     clear hK K
     try simp only [Act.put]
     refine wpAnyH_done (by kernel_rfl) ?_ _
     exact tail g8 g9 _ y5 y6 m8 m9 hHeld
set_option maxRecDepth 100000
set_option maxRecDepth 100000 in
theorem Zm6 (p:Pt) (d n:Sv) (w:World):Calls Tryz.prog 136 #[.agg (p.cs d n).toArray] w fun e w'=>e= .returned (.bool true)∧Below w.heap.size w w':=by
 go_enter Tryz.func136,Tryz.ntmps136
 go_wp2_with (first
  | (refine Z0g (by rfl) _ (by rfl) p d n (by rfl) ?_;intro g1 w1 a1 z1 r1 b1))
 go_returns
 exact⟨rfl,b1⟩
theorem Zgh {α:Type} (l:List α):l.filter (fun _=>true)=l:=by simp
set_option maxRecDepth 100000 in
set_option maxHeartbeats 2000000 in
theorem Z5z {w:World} {E:Nat→Prop} {s:Sv} {L:List Pe} (H:Ps w E s L) (b:Blk) (hE:∀ x,E x→x < w.heap.size):
 Calls Tryz.prog 77 #[.agg b.cs.toArray, .slice s.a s.n s.c] w fun e w'=>e= .returned (.tuple #[.agg (nwB b (pts L)).cs.toArray, .int .i64 (nwE (pts L))])∧Below w.heap.size w w':=by
 have hb:=b.len
 have HO:∀ u,Below w.heap.size w u→_:=fun u hu=>Zd5 (H.later hu) 136 #[] (fun _=>true) b (fun v p d n _ _=>Zm6 p d n v) (fun args w=>rfl) (fun x hx=>Nat.lt_of_lt_of_le (hE x hx) hu.size)
 rw [Zgh]at HO
 have hR:=(nwB b (pts L)).len
 generalize nwB b (pts L)=R at *
 generalize nwE (pts L)=e0 at *
 go_enter Tryz.func77,Tryz.ntmps77
 go_wp2_with (first
  | (refine Z05 64 64 arrB (by rfl) _ (by rfl) b.l (by rfl) hb ?_;intro gb w1 a1 z1 r1 b1)
  | (refine Z03 64 64 arrB (by rfl) (by rfl) ?_;intro gr w2 a2 z2 r2 b2)
  | (refine Z04 64 64 arrB (by rfl) _ (by rfl) gb (by rfl) _ (r1.later b2) hb ?_)
  | (go_at_call 135;refine(HO _ (Z01 b1 b2 (Nat.le_refl _))).mono ?_;rintro e w3 ⟨rfl,b3⟩)
  | (refine Z02 64 64 arrB (by rfl) _ _ (by rfl) gr (by rfl) R.l (by rfl) hR _ (r2.later b3) (by simp) ?_;intro w9 r9 s9))
 have S3:Stp (fun x=>w.heap.size≤x) w w3:=Stp.of_below (Z01 (Z01 b1 b2 (Nat.le_refl _)) b3 (Nat.le_refl _)) _
 have hgr:w.heap.size≤gr:=by have:=b1.size;omega
 exact bodyPost_ret (Z0j arrB Tryz.results77 rfl rfl r9 hR) rfl ⟨rfl,(S3.next s9 (fun x hx=> .inl (by subst hx;exact hgr))).below (Nat.le_refl _) (fun _ h=>h)⟩
set_option maxRecDepth 100000
structure FwI (w wr:World) (v:Value) (L:List Pe):Prop where
 pu:PuI w wr v L
 ms:∀ t ∈ L,PtM wr (fun x=>w.heap.size≤x∧x < wr.heap.size∧v.ownBlock≠some x) t.p t.d t.n
 wf:∀ t ∈ L,t.p.wfp
theorem FwI.ps {w wr:World} {v:Value} {L:List Pe} (h:FwI w wr v L):∃ s:Sv,v= .slice s.a s.n s.c∧s.n=L.length∧Ps wr (Made w wr) s L:=by
 have hM:∀ t ∈ L,PtM wr (Made w wr) t.p t.d t.n:=fun t ht=>(h.ms t ht).mono fun x hx=>⟨hx.1,hx.2.1⟩
 have how:=h.pu.ow
 have hnw:=h.pu.nw
 rcases h.pu.ow.2 with⟨e1,e2⟩ | ⟨g,cap,cur,e1,_,e3,e4,e5,e6,e7⟩
 · obtain rfl:L= []:=List.eq_nil_of_length_eq_zero e2
   exact⟨Sv.nil,e1,rfl,Ps.nilS _ _⟩
 · subst e1
   refine⟨⟨some ⟨g,0,none⟩,L.length,cap⟩,rfl,rfl,rfl,e4,e5,(fun e=>by cases e),fun hn=>⟨g,0,rfl,⟨hnw g rfl,how.lt rfl⟩,fun i t ht=>?_⟩,h.wf,hM⟩
   have hi:=(List.getElem?_eq_some_iff.1 ht).1
   obtain⟨b,t',h1,h2,h3⟩:=how.el i hi
   injection h1 with h1;injection h1 with h1;subst h1
   rw [ht]at h2;injection h2 with h2;subst h2
   rw [Nat.zero_add];exact h3
set_option maxRecDepth 100000
set_option maxRecDepth 100000 in
set_option maxHeartbeats 1000000 in
theorem Zg8 {w:World} {g b m:Nat} {S:Int→Bool} (p:Pt) (d n:Sv) (hp:p.wfp) (hc:w.cell? ⟨g,0,none⟩=some (.map (some b))) (hM:MpS w b S m):
 Calls Tryz.prog 306 #[.agg (p.cs d n).toArray, .pointer (some ⟨g,0,none⟩)] w fun e w'=>e= .returned (.bool (S p.id))∧Below w.heap.size w w':=by
 have hpi:wfi p.id:=hp.i
 go_enter Tryz.func306,Tryz.ntmps306
 go_wp2_with (first
  | (refine Z0g (by rfl) _ (by rfl) p d n (by rfl) ?_;intro g1 w1 a1 z1 r1 b1
     have M1:=hM.later b1
     have c1:w1.cell? ⟨g,0,none⟩=some (.map (some b)):=by rw [b1.cell (World.block_lt_of_cell? w _ hc)];exact hc
     obtain⟨q0,q1,q2,q3,q4,q5,q6,q7,q8⟩:=Pt.cells r1;clear q1 q2 q3 q4 q5 q6 q7 q8)
  | (refine Zl3 (by rfl) _ _ (by rfl) b m S (by rfl) p.id (by rfl) M1 hpi ?_))
 go_returns
 exact⟨rfl,b1.alloc b1.size _⟩
structure AmV (w w':World) (v:Value) (l:List Int) (g b:Nat):Prop where
 v:v= .func (.func 306) #[] #[.pointer (some ⟨g,0,none⟩)]
 c:w'.cell? ⟨g,0,none⟩=some (.map (some b))
 m:MpS w' b (hsI l) l.length
 hg:w.heap.size≤g
 hb:w.heap.size≤b
theorem AmV.later {w w' u:World} {v:Value} {l:List Int} {g b:Nat} (h:AmV w w' v l g b) (k:Below w'.heap.size w' u):AmV w u v l g b:=
 ⟨h.v,by rw [k.cell (World.block_lt_of_cell? w' _ h.c)];exact h.c,h.m.later k,h.hg,h.hb⟩
theorem AmV.tells {w w':World} {v:Value} {l:List Int} {g b:Nat} {F:Nat→Prop} (h:AmV w w' v l g b) (hF:∀ x,F x→w'.heap.size≤x):Z5l w' F 306 #[.pointer (some ⟨g,0,none⟩)] (fun p=>hsI l p.id):=fun u p d n hs hp=>by
 have k:=hs.below (Nat.le_refl _) hF
 have h':=h.later k
 exact Zg8 p d n hp h'.c h'.m
set_option maxRecDepth 100000 in
set_option maxHeartbeats 1000000 in
theorem Zh0 {w:World} {s:Sv} {l:List Int} (h:InsS w s l):
 Calls Tryz.prog 275 #[.slice s.a s.n s.c] w fun e w'=>∃ v g b,e= .returned v∧AmV w w' v l g b∧Below w.heap.size w w':=by
 have hl:=h.i.len
 have hcap:s.n≤maxLen:=by have:=h.i.le;have:=h.i.cap;omega
 have hcap2:s.n≤9223372036854775807:=by unfold maxLen at hcap;omega
 have hcell:=h.i.cell
 have hwf:=h.i.wf
 obtain⟨sa,sn,sc⟩:=s
 simp only at hl hcell hcap hcap2 ⊢
 subst hl
 clear h
 have t1:True:=trivial
 go_enter Tryz.func275,Tryz.ntmps275
 go_wp2_with (first
  | (clear t1;refine Zq9 (by rfl) _ (by rfl) _ (by rfl) ?_;intro b w1 hb1 M1 b1))
 have hg:=b1.size
 have b2:Below w1.heap.size w1 (w1.alloc (.cells #[.map (some b)] 270)):=(Below.refl _ _).alloc (Nat.le_refl _) _
 have c2:(w1.alloc (.cells #[.map (some b)] 270)).cell? ⟨w1.heap.size,0,none⟩=some (.map (some b)):=by simp [go_sem]
 have M2:=M1.later b2
 have B2:=Z01 b1 b2 (Nat.le_refl _)
 have hne:w1.heap.size≠b:=by have:=M1.lt;omega
 generalize w1.alloc (.cells #[.map (some b)] 270)=w2 at *
 clear b1 b2 M1
 generalize w1.heap.size=g at *
 clear w1
 have hcl:∀ bb o,sa=some ⟨bb,o,none⟩→∀ i,i < l.length→w2.cell? ⟨bb,o+i,none⟩=some (.int .i64 (l.getD i 0))∧bb≠b:=fun bb o e i hi=>by
  obtain⟨b',o',e',hc⟩:=hcell (by omega)
  rw [e]at e';injection e' with e';injection e' with e1 e2;subst e1;subst e2
  have h1:=hc i hi
  have h2:=World.block_lt_of_cell? w _ h1
  refine⟨by rw [B2.cell h2];exact h1,fun e=>?_⟩
  simp only at h2;omega
 have hsome:0 < l.length→∃ bb o,sa=some ⟨bb,o,none⟩:=fun h=>by obtain⟨b',o',e',hc⟩:=hcell (by omega);exact⟨b',o',e'⟩
 clear hcell
 go_loopw [11] (fun v wr=>∃ k:Nat,k≤l.length∧v= .int .i64 (k:Int)∧MpS wr b (hsI (l.take k)) k∧Stp (fun x=>x=b) w2 wr) (fun v _=>l.length - (intOf v).toNat)
 case atStart=>exact⟨0,Nat.zero_le _,rfl,M2,Stp.refl _ _⟩
 case round=>
  obtain⟨k,hk,rfl,Mk,sk⟩:=hrel
  have ck:=sk.cell c2 hne
  by_cases hlt:k < l.length
  · obtain⟨bb,o,rfl⟩:=hsome (by omega)
    obtain⟨cl,hnb⟩:=hcl bb o rfl k hlt
    have c4:=sk.cell cl hnb
    have hw0:wfi (l.getD k 0):=by
     rw [List.getD_eq_getElem?_getD,List.getElem?_eq_getElem hlt];exact hwf _ (List.getElem_mem _)
    have hT:Hid ((fun x=>hsI (l.take k) x||decide (x=l.getD k 0))=hsI (l.take (k+1))):=by
     show _=_
     funext x
     unfold hsI
     rw [List.take_add_one,List.getElem?_eq_getElem hlt,List.any_append,List.getD_eq_getElem?_getD,List.getElem?_eq_getElem hlt]
     have hq:∀ y:Int,(y==x)=decide (x=y):=fun y=>by rw [Bool.eq_iff_iff,beq_iff_eq,decide_eq_true_eq];exact eq_comm
     congr 1
     simp only [Option.toList_some,List.any_cons,List.any_nil,Bool.or_false,Option.getD_some,hq]
    generalize l.getD k 0=y at *
    have a9:(k:Int) < (l.length:Int):=by omega
    clear hcl hsome cl
    have t1:True:=trivial
    have t2:True:=trivial
    go_wp2_with (first
     | (clear t1;refine Zf0 (by rfl) (by rfl) ?_)
     | (clear t2;refine Zl6 (by rfl) _ _ _ (by rfl) b k _ (by rfl) y (by rfl) (by rfl) Mk (by omega) hw0 ?_;intro w5 m5 s5))
    go_roundw
    case rel=>exact⟨k+1,by omega,by go_num,by rw [← hT.out];exact m5,sk.trans s5⟩
    case measure=>simp [intOf];omega
  · obtain rfl:k=l.length:=by omega
    have a9:¬(l.length:Int) < (l.length:Int):=by omega
    rw [List.take_length]at Mk
    clear hcl hsome
    go_wp2_with fail
    go_returns
    exact⟨_,rfl,⟨g,b,⟨rfl,ck,Mk,hg,hb1⟩⟩,((Stp.of_below B2 (fun x=>w.heap.size≤x)).next sk (fun x hx=> .inl (by subst hx;exact hb1))).below (Nat.le_refl _) (fun _ h=>h)⟩
set_option maxRecDepth 100000
def smP (l:List Pt) (ids:List Int):List Pt:=l.filter fun p=>hsI ids p.id
set_option maxRecDepth 100000 in
set_option maxHeartbeats 2000000 in
theorem Zmz {w:World} {E:Nat→Prop} {s n:Sv} {L:List Pe} {ids:List Int} (H:Ps w E s L) (h:InsS w n ids) (b:Blk) (hE:∀ x,E x→x < w.heap.size):
 Calls Tryz.prog 221 #[.agg b.cs.toArray, .slice s.a s.n s.c, .slice n.a n.n n.c] w fun e w'=>e= .returned (.tuple #[.agg (nwB b (smP (pts L) ids)).cs.toArray, .int .i64 (nwE (smP (pts L) ids))])∧Below w.heap.size w w':=by
 have hb:=b.len
 have hR:=(nwB b (smP (pts L) ids)).len
 obtain⟨R,hRe⟩:∃ R,Hid (nwB b (smP (pts L) ids)=R):=⟨_,rfl⟩
 obtain⟨e0,he0⟩:∃ e0,Hid (nwE (smP (pts L) ids)=e0):=⟨_,rfl⟩
 rw [hRe.out]at hR
 rw [hRe.out,he0.out]
 have hin:InE (fun x=>x < w.heap.size) n:=fun ad e h0=>by
  obtain⟨b',o',e',hc⟩:=h.i.cell h0
  rw [e]at e';injection e' with e';subst e'
  exact World.block_lt_of_cell? w _ (hc 0 h0)
 have t1:True:=trivial
 go_enter Tryz.func221,Tryz.ntmps221
 go_wp2_with (first
  | (refine Z05 64 64 arrB (by rfl) _ (by rfl) b.l (by rfl) hb ?_;intro gb w1 a1 z1 r1 b1)
  | (clear t1;refine Z03 64 64 arrB (by rfl) (by rfl) ?_;intro gr W a2 z2 r2 b2))
 have r:=r1.later b2
 have hgr:w.heap.size≤gr:=by have:=b1.size;omega
 have B2:=Z01 b1 b2 (Nat.le_refl _)
 have hrne:∀ x,x < w.heap.size→x≠gr:=fun x hx e=>by omega
 have hn:∀ u,Stp (fun x=>x=gr) W u→InsS u n ids:=fun u hu=>(h.later B2).step hu hin hrne
 have hgb:gb≠gr:=by omega
 have HO:∀ u v (k:World) (g m:Nat),Stp (fun x=>x=gr) W u→AmV k u v ids g m→Calls Tryz.prog 135 #[.agg b.cs.toArray, .slice s.a s.n s.c, .func (.func 306) #[] #[.pointer (some ⟨g,0,none⟩)]] u fun e w'=>e= .returned (.tuple #[.agg R.cs.toArray, .int .i64 e0])∧Below u.heap.size u w':=fun u v k g m hu hv=>by
  rw [← hRe.out,← he0.out]
  exact Zd5 ((H.later B2).step hu (fun x hx=>hrne x (hE x hx))) 306 #[.pointer (some ⟨g,0,none⟩)] (fun p=>hsI ids p.id) b (hv.tells (fun x hx=>hx)) (fun args w=>rfl) (fun x hx=>Nat.lt_of_lt_of_le (hE x hx) (Nat.le_trans B2.size hu.size))
 clear z1 z2 r1 b1 H h
 obtain⟨sa,sn,sc⟩:=s
 obtain⟨na,nn,nc⟩:=n
 simp only at hn HO ⊢
 have r2d:Row W.drew gr (List.replicate 64 0):=r2.later (Below.refl _ _).drew
 refine wp_region_held_drew (S:=fun u=>Stp (fun x=>x=gr) W u) (by kernel_rfl) (Stp.refl _ _).drew (fun hHeld=>?_)
 refine tm 0 (.agg b.cs.toArray) rfl
  (Z0e 64 64 arrB (by rfl) (.tmp 3) rfl gb (by rfl) b.l hb (fun u hu=>r.step hu hgb)) ?_
 try simp only [z]
 refine tl 1 (.slice sa sn sc) rfl ?_
 try simp only [z]
 refine tl 2 (.slice na nn nc) rfl ?_
 try simp only [z]
 refine rd 3 rfl (fun K hK=>?_)
 go_simp
 refine(Zh0 (hn _ hHeld)).mono ?_
 rintro e v3 ⟨fv,g,m,rfl,A3,c3⟩
 obtain rfl:=A3.v
 have yr:=r2d.later c3
 try go_wp2_with fail
 refine hK.out _ _ (hHeld.trans (Stp.of_below c3 _)) (fun hHeld=>?_)
 clear hK K
 try simp only [z]
 refine rd 4 rfl (fun K hK=>?_)
 go_simp
 refine(HO _ _ _ g m hHeld A3).mono ?_
 rintro e v4 ⟨rfl,c4⟩
 have yr2:=yr.later c4
 try go_wp2_with fail
 refine hK.out _ _ (hHeld.trans (Stp.of_below c4 _)) (fun hHeld=>?_)
 clear hK K
 try simp only [z]
 refine tl 5 (.agg R.cs.toArray) rfl ?_
 try simp only [z]
 refine tl 6 (.int .i64 e0) rfl ?_
 try simp only [z]
 refine rd 7 rfl (fun K hK=>?_)
 refine Z0h 64 64 arrB rfl (.tmp 6) (.tmp 13) rfl gr (by rfl) R.l (by rfl) hR _ yr2 (by simp) ?_
 intro v7 y7 s7
 refine hK.out _ _ (hHeld.trans s7) (fun hHeld=>?_)
 clear hK K
 try simp only [Act.put]
 refine tl 8 (.int .i64 e0) rfl ?_
 try simp only [z]
 refine wpAnyH_done (by kernel_rfl) ?_ _
 go_wp2_with fail
 exact bodyPost_ret (Z0j arrB Tryz.results221 rfl rfl y7 hR) rfl ⟨rfl,((Stp.of_below B2 (fun x=>w.heap.size≤x)).next hHeld (fun x hx=> .inl (by subst hx;exact hgr))).below (Nat.le_refl _) (fun _ h=>h)⟩
set_option maxRecDepth 100000
def PsL (w:World) (s:Sv) (l:List Pt):Prop:=∃ M,Ps w (fun x=>x < w.heap.size) s M∧pts M=l
theorem PsL.later {w w':World} {s:Sv} {l:List Pt} (h:PsL w s l) (k:Below w.heap.size w w'):PsL w' s l:=by
 obtain⟨M,h1,h2⟩:=h
 exact⟨M,(h1.later k).mono (fun x hx=>Nat.lt_of_lt_of_le hx k.size),h2⟩
theorem FwI.psL {w w':World} {v:Value} {M:List Pe} (h:FwI w w' v M):∃ s:Sv,v= .slice s.a s.n s.c∧PsL w' s (pts M)∧Below w.heap.size w w':=by
 obtain⟨s,h1,_,h3⟩:=h.ps
 exact⟨s,h1,⟨M,h3.mono (fun x hx=>hx.2),rfl⟩,h.pu.b⟩
theorem Zs3 {w:World} {s:Sv} {l:List Pt} (h:PsL w s l) (b:Blk):
 Calls Tryz.prog 77 #[.agg b.cs.toArray, .slice s.a s.n s.c] w fun e w'=>e= .returned (.tuple #[.agg (nwB b l).cs.toArray, .int .i64 (nwE l)])∧Below w.heap.size w w':=by
 obtain⟨M,h1,rfl⟩:=h
 exact Z5z h1 b (fun x hx=>hx)
theorem Zrb {w:World} {s n:Sv} {l:List Pt} {ids:List Int} (h:PsL w s l) (hn:InsS w n ids) (b:Blk):
 Calls Tryz.prog 221 #[.agg b.cs.toArray, .slice s.a s.n s.c, .slice n.a n.n n.c] w fun e w'=>e= .returned (.tuple #[.agg (nwB b (smP l ids)).cs.toArray, .int .i64 (nwE (smP l ids))])∧Below w.heap.size w w':=by
 obtain⟨M,h1,rfl⟩:=h
 exact Zmz h1 hn b (fun x hx=>hx)
end Go.Proofs.YtogdffonjhghcaaGreatDoor
