/-
  Texts of my own, joined: no statement is proved here.
-/
import Derived.BigQuiet
import Derived.Test.YtogdffonjhghcaaGreatDoorJbr
set_option linter.unusedSimpArgs false
set_option linter.unusedVariables false
namespace Go.Proofs.YtogdffonjhghcaaGreatDoor
open Go.ChangeShapes Go.WideShapes Go.ChangeAt Go.RowKit
section
variable {Z : CZ} {i : Int} {b : Blk} {t : Nat}
def CZ.hasP (Z:CZ):Prop:=Z.p.isSome=true
theorem CZ.hasP.ex (h:Z.hasP):∃ p,Z.p=some p:=Option.isSome_iff_exists.1 h
theorem useP_has {d:DS} {p:Option PS} (h:p.isSome=true) (i:Int):(useP d p i).isSome=true:=by
  unfold useP oUse
  split
  · rw [Option.isSome_map];exact h
  · exact h
theorem CZ.hasP.wrt (h:Z.hasP) (i:Int) (q:Pg):(Z.wrt i q).hasP:=useP_has h i
theorem CZ.hasP.back (h:Z.hasP) (i:Int):(Z.back i).hasP:=by
  unfold CZ.back
  split
  · exact h
  · split
    · exact h.wrt _ _
    · exact h
theorem CZ.hasP.room (h:Z.hasP):Z.room.hasP:=by
  unfold CZ.room
  split
  · exact h
  · split
    · exact h
    · split
      · exact h.back _
      · exact h.back _
theorem CZ.hasP.hold (h:Z.hasP) (i:Int):(Z.hold i).hasP:=by
  unfold CZ.hold
  split
  · split
    · exact h
    · split
      · exact h.room
      · exact h.room
  · exact h
theorem CZ.hasP.put (h:Z.hasP) (i:Int) (b:Blk):(Z.put i b).hasP:=by
  unfold CZ.put
  split
  · exact h.hold i
  · exact h.hold i
theorem CZ.hasP.force (h:Z.hasP) (i:Int) (b:Blk):(Z.force i b).hasP:=by
  unfold CZ.force
  split
  · exact useP_has (h.hold i) i
  · exact h.hold i
theorem CZ.hasP.flush (h:Z.hasP):Z.flush.hasP:=by
  unfold CZ.flush CZ.hasP oUse
  rw [Option.isSome_map];exact h
theorem CZ.hasP.sto (h:Z.hasP) (i:Int) (b:Blk) (f:Bool):(sto Z i b f).hasP:=by
  unfold Go.Proofs.YtogdffonjhghcaaGreatDoor.sto
  split
  · exact h.force i b
  · split
    · exact(h.put i b).back i
    · exact h.put i b
theorem CZ.ok.flush (h:Z.ok t):Z.flush.ok (t+1):=by
  have hn:Z.flush.d.n=Z.d.n:=by unfold CZ.flush DS.flush;simp only;split<;>rfl
  refine⟨h.n1,h.n2,h.nd,fun e he=>?_,h.len,fun e he=>⟨(h.pin e he).1,by have:=(h.pin e he).2;omega⟩,fun i=>?_,fun s hs=>?_⟩
  · have:=h.inn e he;unfold DS.inn at this ⊢;rw [hn];exact this
  · have:=h.wt i
    show((Z.d.flush Z.p).wt i).length≤t+1
    unfold DS.flush
    split
    · simp
    · omega
  · have hs':oUse Z.p=some s:=hs
    unfold oUse at hs'
    obtain⟨s0,h1,h2⟩:=Option.map_eq_some_iff.1 hs'
    subst h2
    exact use_okAt (h.sp s0 h1)
theorem CZ.ok.sto (h:Z.ok t) (i:Int) (b:Blk) (f:Bool):(sto Z i b f).ok (t+2):=by
  unfold Go.Proofs.YtogdffonjhghcaaGreatDoor.sto
  split
  · exact h.force i b
  · split
    · exact(h.put i b).back i
    · exact(h.put i b).mono (by omega)
theorem CZ.ok.okk {p:PS} {k:Nat} (h:Z.ok t) (ht:t+k≤1000000) (hp:Z.p=some p):p.okk k:=by
  have:=h.sp p hp
  unfold okAt at this
  unfold PS.okk
  omega
theorem CZ.ok.setp {p':PS} {t':Nat} (h:Z.ok t) (ht:t≤t') (hp:okAt p' t'):CZ.ok t' { Z with p:=some p'} :=
  ⟨h.n1,h.n2,h.nd,h.inn,h.len,fun e he=>⟨(h.pin e he).1,by have:=(h.pin e he).2;omega⟩,fun i=>Nat.le_trans (h.wt i) ht,fun s hs=>by injection hs with hs;subst hs;exact hp⟩
theorem turn_okAt {p:PS} {k:Nat} (h:okAt p k):okAt p.turn (k+3):=by
  unfold PS.turn
  split
  · split
    · exact okAt_mono (use_okAt (use_okAt (use_okAt h))) (by omega)
    · exact okAt_mono (use_okAt (use_okAt h)) (by omega)
  · exact okAt_mono (use_okAt h) (by omega)
theorem markP_okAt {x:WS} {n:Nat} {p:PS} {k:Nat} (h:okAt p k):okAt (markP x n p) (k+3):=by
  unfold markP
  split
  · exact okAt_mono h (by omega)
  · exact turn_okAt h
end
structure VOk (t k:Nat) (V:VZ):Prop where
  c:V.c.ok t
  p:V.c.hasP
  la:V.g.last≤(k:Int)
  n6:∀ p ∈ V.g.l,p.needs.length≤6
section
variable {V : VZ} {t k t' k' : Nat} {i : Int} {b : Blk}
theorem VOk.mono (h:VOk t k V) (ht:t≤t') (hk:k≤k'):VOk t' k' V:=⟨h.c.mono ht,h.p,by have:=h.la;omega,h.n6⟩
theorem VOk.look (h:VOk t k V) (i:Int):VOk (t+1) k (V.look i):=⟨h.c.hold i,h.p.hold i,h.la,h.n6⟩
theorem VOk.vp (h:VOk t k V):V.c.p=some V.p:=by
  obtain⟨p,hp⟩:=h.p.ex
  unfold VZ.p;rw [hp];rfl
theorem VOk.mrk (h:VOk t k V) (n:Nat):VOk (t+3) k (V.mrk n):=
  ⟨h.c.setp (by omega) (markP_okAt (h.c.sp _ h.vp)),rfl,h.la,h.n6⟩
theorem VOk.add (h:VOk t k V) (p:Pt) (hp:p.needs.length≤6):VOk t (k+1) { V with g:=V.g.add p} :=
  ⟨h.c,h.p,add_la h.la p,add_n6 h.n6 p hp⟩
theorem VOk.pat (h:VOk t k V) (p:Pt) (hp:p.needs.length≤6):VOk (t+3) (k+1) (V.pat p):=by
  unfold VZ.pat
  split
  · split
    · exact(h.add p hp).mrk _
    · exact h.mono (by omega) (by omega)
  · exact h.mono (by omega) (by omega)
theorem wr_last:∀ (l:List Int) (Z:GZ),(Z.wr l).last=Z.last
  | [],Z=>rfl
  | i::r,Z=>by
    unfold GZ.wr
    split
    · rw [wr_last r];unfold GZ.wr1;split<;>rfl
    · rfl
theorem VOk.brg (h:VOk t k V) (hr:Rise V.g.l) (i:Int) (f:Bool):VOk (t+3) k (V.brg i f):=by
  have hc:(Go.Proofs.YtogdffonjhghcaaGreatDoor.sto (V.c.hold i) i (V.nxt i) f).ok (t+3):=((h.c.hold i).sto i _ f).mono (by omega)
  have hp:(Go.Proofs.YtogdffonjhghcaaGreatDoor.sto (V.c.hold i) i (V.nxt i) f).hasP:=(h.p.hold i).sto i _ f
  unfold VZ.brg
  split
  · split
    · exact⟨hc,hp,by rw [show(V.g.wr (rdy V.g.l i)).last=V.g.last from wr_last _ _];exact h.la,fun p hq=>cr_needs hr h.n6 [i] p hq⟩
    · exact⟨hc,hp,h.la,h.n6⟩
  · exact⟨(h.c.hold i).mono (by omega),h.p.hold i,h.la,h.n6⟩
theorem brg_rise (hr:Rise V.g.l) (i:Int) (f:Bool):Rise (V.brg i f).g.l:=by
  unfold VZ.brg
  split
  · split
    · show Rise (V.g.wr (rdy V.g.l i)).l
      rw [(wr_rdy hr i).1];exact setO_rise hr _
    · exact hr
  · exact hr
theorem VOk.brs (f:Bool):∀ (L:List Int) (V:VZ) (t:Nat),VOk t k V→Rise V.g.l→VOk (t+3 * L.length) k (V.brs f L).2∧Rise (V.brs f L).2.g.l
  | [],V,t,h,hr=>⟨h.mono (by omega) (Nat.le_refl _),hr⟩
  | i::r,V,t,h,hr=>by
    unfold VZ.brs
    split
    · obtain⟨h1,h2⟩:=VOk.brs f r (V.brg i f) (t+3) (h.brg hr i f) (brg_rise hr i f)
      exact⟨h1.mono (by simp only [List.length_cons];omega) (Nat.le_refl _),h2⟩
    · exact⟨(h.brg hr i f).mono (by simp only [List.length_cons];omega) (Nat.le_refl _),brg_rise hr i f⟩
theorem VOk.settled (h:VOk t k V):VOk t k V.settled:=⟨h.c,h.p,h.la,fun p hp=>h.n6 p (List.mem_filter.1 hp).1⟩
theorem VOk.endB (h:VOk t k V) (f:Bool):VOk (t+1) k (V.endB f):=by
  have hf:VOk (t+1) k { V with c:=V.c.flush} :=⟨h.c.flush,h.p.flush,h.la,h.n6⟩
  unfold VZ.endB
  split
  · exact h.settled.mono (by omega) (Nat.le_refl _)
  · split
    · exact hf.settled
    · exact hf
theorem VOk.cary (h:VOk t k V) (hr:Rise V.g.l) (L:List Int) (f:Bool):VOk (t+3 * L.length+1) k (V.cary L f).2:=by
  unfold VZ.cary
  split
  · exact(VOk.brs f L V t h hr).1.endB f
  · exact(VOk.brs f L V t h hr).1.mono (by omega) (Nat.le_refl _)
end
theorem rowG:∃ d,Tryz.prog.underlying 50=some d∧d.isRow=true:=⟨_,Tryz.underlying50,rfl⟩
theorem sizeG:(Tryz.prog.info? 50).map (·.size)=some 3:=by kernel_rfl
theorem srtPl:Srt 220 3 [.int .i64 0, .int .i64 0, .int .i64 0]:=
  ⟨⟨_,Tryz.underlying220,rfl⟩,by kernel_rfl,fun w=>(zero_of_info (v:= .agg #[.int .i64 0, .int .i64 0, .int .i64 0]) (n:=3) (by kernel_rfl)).1 w,rfl,by intro v hv;simp at hv;subst hv;rfl⟩
theorem PoI.psL {w w':World} {v:Value} {L:List Pe} {l:List Pt} (h:PoI w w' v L l) (hw:∀ p ∈ l,p.wfp):∃ s:Sv,v= .slice s.a s.n s.c∧PsL w' s l∧Below w.heap.size w w':=by
  have hf:FwI w w' v L:=⟨h.u,fun t ht=>(h.ms t ht).mono (fun x hx=>⟨hx.1.1,hx.1.2,hx.2⟩),fun t ht=>hw t.p (by rw [← h.eq];exact List.mem_map_of_mem ht)⟩
  obtain⟨s,h1,h2,h3⟩:=hf.psL
  refine⟨s,h1,?_,h3⟩
  have:pts L=l:=h.eq
  rw [← this];exact h2
theorem wtP_wfp {Z:GZ} (h:Z.ok 2000) (s:Int):∀ p ∈ wtP Z.l s,p.wfp:=fun p hp=>h.wfp (List.mem_filter.1 hp).1
theorem of_L {w:World} {g:Nat} {Z:GZ} {E F:Nat→Prop} (H:Gh w g Z E F) (s:Int) (hs:wfi s) (hnl:∀ p ∈ Z.l,p.needs.length≤6):
    Calls Tryz.prog 78 #[.pointer (some ⟨g,0,none⟩), .int .i64 s] w fun e w'=>∃ t:Sv,e= .returned (.slice t.a t.n t.c)∧PsL w' t (wtP Z.l s)∧Below w.heap.size w w':=by
  have hok:=H.ok
  obtain⟨_,_,_,_,H⟩:=H
  refine(of_any H s hs (fun p hp=>by have:=hnl p hp;omega)).mono ?_
  rintro e w' ⟨v,L,rfl,h⟩
  obtain⟨t,rfl,h1,h2⟩:=h.psL (wtP_wfp hok s)
  exact⟨t,rfl,h1,h2⟩
theorem retG1 {fn:Func} {p:Tmp} {tmps:Array Value} {w:World} {g:Nat} {s:Gm} (h:fn.results=#[.cell p 50]) (hp:tmps.getD p undef= .pointer (some ⟨g,0,none⟩)) (hR:GR w g s):(results fn tmps).run Tryz.prog w= .ok (gv s) w:=by
  have hp':tmps[p]?.getD undef= .pointer (some ⟨g,0,none⟩):=by simpa using hp
  simp [results,h,hp',asAddr,loadG hR]
section
variable {u : World} {A : VA} {V : VZ} {U E F T : Nat → Prop} {t k : Nat}
set_option maxRecDepth 100000 in
set_option maxHeartbeats 2000000 in
theorem vgroup_any (H:Vx u A V U E F) (x:Int):
    Calls Tryz.prog 91 #[.pointer (some ⟨A.v,0,none⟩), .int .i64 x] u fun e w'=>e= .returned (.tuple #[.int .i64 (V.s.pg x), .bool (V.hasG x)])∧Below u.heap.size u w':=by
  have hc:=H.c
  have hW:=where_any V.s x
  unfold VZ.hasG
  unfold VA.cs at hc
  generalize V.s.pk x=K at *
  generalize V.s.pg x=G at *
  generalize V.s.pi x=I at *
  generalize V.s.werr x=e0 at *
  generalize V.s.g=s1 at *
  generalize V.s.i=s2 at *
  generalize V.s.d=s3 at *
  clear H
  go_enter Tryz.func91,Tryz.ntmps91
  go_wp2_with (first
    | (refine at_getP 50 3 rowG sizeG (by rfl) _ (by rfl) A.v 4 (by rfl) _ hc [.int .i64 s1, .int .i64 s2, .int .i64 s3] (by rfl) rfl ?_)
    | (go_at_call 141;refine(hW _).mono ?_;rintro e w1 ⟨rfl,b1⟩;clear hW)
    | (refine at_newC 220 3 _ srtPl (by rfl) (by rfl) ?_;intro g2 w2 a2 z2 r2 b2)
    | (refine at_putC 220 3 _ srtPl (by rfl) _ _ (by rfl) g2 (by rfl) [.int .i64 K, .int .i64 G, .int .i64 I] (by rfl) rfl (by intro v hv;simp at hv;rcases hv with rfl | rfl | rfl<;>rfl) _ r2 (by rfl) ?_;intro w3 r3 s3))
  have c0:=r3.cell 0 _ rfl
  have c1:=r3.cell 1 _ rfl
  have B:Below u.heap.size u w3:=((Stp.of_below (bnext b1 b2 (Nat.le_refl _)) (fun x=>u.heap.size≤x)).next s3 (fun x hx=> .inl (by subst hx;have:=b1.size;omega))).below (Nat.le_refl _) (fun _ h=>h)
  clear b1 b2 s3 r2 r3 hc
  by_cases h0:e0=0
  · subst h0
    by_cases h1:K=1
    · subst h1
      go_quiet (fail)
      go_wp2_with fail
      go_returns
      exact⟨rfl,((Stp.of_below B (fun _=>False)).drewN _).below (Nat.le_refl _) (fun _ h=>h.elim)⟩
    · have hd:decide (K=1)=false:=by simp [h1]
      go_quiet (fail)
      go_wp2_with fail
      go_returns
      exact⟨by simp [h1],((Stp.of_below B (fun _=>False)).drewN _).below (Nat.le_refl _) (fun _ h=>h.elim)⟩
  · have hd:decide (e0=0)=false:=by simp [h0]
    go_quiet (fail)
    go_wp2_with fail
    go_returns
    exact⟨by simp [h0],((Stp.of_below B (fun _=>False)).drewN _).below (Nat.le_refl _) (fun _ h=>h.elim)⟩
set_option maxRecDepth 100000 in
set_option maxHeartbeats 2000000 in
theorem vnow_any (H:Vx u A V U E F) (ok:VOk t k V) (ht:t≤8990) (i:Int) (hi:wfi i) (hT:∀ x,T x↔Vt A U E F x):
    Calls Tryz.prog 17 #[.pointer (some ⟨A.v,0,none⟩), .int .i64 i] u fun e w'=>e= .returned (.tuple #[.agg (V.nowB i).cs.toArray, .int .i64 (V.nowE i)])∧VG A (V.look i) T u w':=by
  have hG:=fun w' (b:Below u.heap.size u w')=>get_ca (H.later b).ca ok.c (by omega) i hi
  have hp:=(ok.p.hold i).ex
  have hlt:=H.lt
  have n6:=ok.n6
  have t1:Hid True:=trivial
  unfold VZ.nowB VZ.nowE VZ.look
  by_cases he:V.c.holdE i=0
  · rw [if_pos he,if_pos he]
    rw [he]at hG
    have hgl:=(V.c.got i).len
    generalize V.c.got i=B0 at *
    have hR:=(nwB B0 (wtP V.g.l i)).len
    have hNow:∀ w (s:Sv),PsL w s (wtP V.g.l i)→_:=fun w s h=>now_L h B0
    generalize nwB B0 (wtP V.g.l i)=R at *
    generalize nwE (wtP V.g.l i)=e1 at *
    go_enter Tryz.func17,Tryz.ntmps17
    go_wp2_with (first
      | (clear t1;refine at_new 64 64 arrB (by rfl) (by rfl) ?_;intro gr w1 a1 z1 r1 b1
         have H1:=H.later b1
         obtain⟨y0, -, -, -, -, -, -, -⟩:=H1.cells)
      | (go_at_call 76;refine(hG _ b1).mono ?_;rintro e w2 ⟨rfl,k2⟩;clear hG
         obtain⟨U2,H2,s2,g2⟩:=H1.ofC k2 hp
         have r12:=r1.step s2 (fun hx=>by have:=H.ca.lt gr hx;omega)
         clear y0 k2 H1)
      | (refine at_new 64 64 arrB (by rfl) (by rfl) ?_;intro gb w3 a3 z3 r3 b3)
      | (refine at_put 64 64 arrB (by rfl) _ _ (by rfl) gb (by rfl) B0.l (by rfl) hgl _ r3 (by simp) ?_;intro W r4 s4))
    have hw1:=b1.size
    have hw2:=s2.size
    have hgb:gb≠gr:=by omega
    have nU:¬Vt A U2 E F gr:=fun hx=>by
      rcases hx with h | h
      · rcases g2 gr h with e | e
        · have:=H.ca.lt gr e;omega
        · omega
      · have:=hlt gr (.inr h);omega
    have H3:Vx W A { V with c:=V.c.hold i} U2 E F:=(H2.later b3).step s4 (fun x hx e=>by subst e;have:=H2.lt _ hx;omega)
    have r5:Row W gr (List.replicate 64 0):=(r12.later b3).step s4 (fun e=>by omega)
    have S4:Stp T u W:=(((Stp.of_below b1 T).next s2 (fun x hx=> .inl ((hT x).2 (.inl hx)))).trans (Stp.of_below b3 T)).next s4 (fun x hx=> .inr (by subst hx;omega))
    have HV:∀ x,Stp (fun y=>y=gr) W x→Vx x A { V with c:=V.c.hold i} U2 E F:=fun x hx=>H3.step hx (fun y hy e=>by subst e;exact nU hy)
    have gU:∀ x,Vt A U2 E F x→T x∨u.heap.size≤x:=Vt.more hT (fun x hx=>by rcases g2 x hx with e | e;exact .inl e;exact .inr (by omega)) (fun x hx=> .inl hx) (fun x hx=> .inl hx)
    have hgr:u.heap.size≤gr:=a1
    clear r12 r3 s4 b3 r1 H2 s2 g2 b1 hlt nU
    have r5d:Row W.drew gr (List.replicate 64 0):=r5.later (Below.refl _ _).drew
    go_wp2_with fail
    refine wp_region_held_drew (S:=fun u=>Stp (fun x=>x=gr) W u) (by kernel_rfl) (Stp.refl _ _).drew (fun hHeld=>?_)
    refine tk (i:=0) (oi:=⟨some 24, .load 64 (.tmp 6),64,_,#[],none⟩) (v:= .agg B0.cs.toArray) rfl
      (yields_row 64 64 arrB (by rfl) (.tmp 6) rfl gb (by rfl) B0.l hgl (fun u hu=>r4.step hu hgb)) hHeld ?_
    try simp only [zp,zn,zq,zr,zs]
    refine tk (i:=1) (oi:=⟨some 25, .move (.tmp 0),27,_,#[],none⟩) (v:= .pointer (some ⟨A.v,0,none⟩)) rfl (Or.inl ⟨by rfl,?_⟩) hHeld ?_
    · intro u hu
      go_simp
    try simp only [zp,zn,zq,zr,zs]
    refine tk (i:=2) (oi:=⟨some 26, .nilCheck (.tmp 25),0,_,#[⟨1, .data⟩],none⟩) (v:= .pointer (some ⟨A.v,0,none⟩)) rfl (Or.inl ⟨by rfl,?_⟩) hHeld ?_
    · intro u hu
      go_simp
    try simp only [zp,zn,zq,zr,zs]
    refine tk (i:=3) (oi:=⟨some 27, .fieldAddr 117 (.tmp 26) 1,0,_,#[⟨2, .data⟩],none⟩) (v:= .pointer (some ⟨A.v,1,none⟩)) rfl (Or.inl ⟨by rfl,?_⟩) hHeld ?_
    · intro u hu
      go_simp
    try simp only [zp,zn,zq,zr,zs]
    refine tk (i:=4) (oi:=⟨some 28, .fieldAddr 114 (.tmp 27) 0,0,_,#[⟨3, .data⟩],none⟩) (v:= .pointer (some ⟨A.v,1,none⟩)) rfl (Or.inl ⟨by rfl,?_⟩) hHeld ?_
    · intro u hu
      go_simp
    try simp only [zp,zn,zq,zr,zs]
    refine tk (i:=5) (oi:=⟨some 29, .load 92 (.tmp 28),92,_,#[⟨4, .data⟩],none⟩) (v:= .pointer (some ⟨A.g,0,none⟩)) rfl (Or.inl ⟨by rfl,?_⟩) hHeld ?_
    · intro u hu
      have x1:=(HV _ hu).cells.2.1;go_simp
    try simp only [zp,zn,zq,zr,zs]
    refine tk (i:=6) (oi:=⟨some 30, .move (.tmp 1),3,_,#[],none⟩) (v:= .int .i64 i) rfl (Or.inl ⟨by rfl,?_⟩) hHeld ?_
    · intro u hu
      go_simp
    try simp only [zp,zn,zq,zr,zs]
    refine wpAnyH_ready (rs:= [7]) (by kernel_rfl) (by simp) ?_
    refine(AllReadyH.cons (o:=⟨some 31, .call { callee:=Callee.value (.func 78),args:=#[.tmp 29, .tmp 30],argTypes:=#[92,3]},120,_,#[⟨5, .data⟩,⟨6, .data⟩],none⟩) rfl (fun K hK=>?_) AllReadyH.nil)
    go_simp
    refine(of_L (HV _ hHeld).gh i hi n6).mono ?_
    rintro e v3 ⟨⟨na,nn,nc⟩,rfl,P3,c3⟩
    have yr:=r5d.later c3
    try go_wp2_with fail
    refine hK.out _ _ (hHeld.trans (Stp.of_below c3 _)) (fun hHeld=>?_)
    clear hK K
    try simp only [zp,zn,zq,zr,zs]
    refine wpAnyH_ready (rs:= [8]) (by kernel_rfl) (by simp) ?_
    refine(AllReadyH.cons (o:=⟨some 32, .call { callee:=Callee.value (.func 77),args:=#[.tmp 24, .tmp 31],argTypes:=#[64,120]},65,_,#[⟨0, .data⟩,⟨7, .data⟩,⟨7, .chain⟩],none⟩) rfl (fun K hK=>?_) AllReadyH.nil)
    go_simp
    refine(hNow _ _ P3).mono ?_
    rintro e v4 ⟨rfl,c4⟩
    have yr2:=yr.later c4
    try go_wp2_with fail
    refine hK.out _ _ (hHeld.trans (Stp.of_below c4 _)) (fun hHeld=>?_)
    clear hK K
    try simp only [zp,zn,zq,zr,zs]
    refine tk (i:=9) (oi:=⟨some 33, .extract (.tmp 32) 0,64,_,#[⟨8, .data⟩],none⟩) (v:= .agg R.cs.toArray) rfl (Or.inl ⟨by rfl,?_⟩) hHeld ?_
    · intro u hu
      go_simp
    try simp only [zp,zn,zq,zr,zs]
    refine tk (i:=10) (oi:=⟨some 34, .extract (.tmp 32) 1,28,_,#[⟨8, .data⟩],none⟩) (v:= .int .i64 e1) rfl (Or.inl ⟨by rfl,?_⟩) hHeld ?_
    · intro u hu
      go_simp
    try simp only [zp,zn,zq,zr,zs]
    refine wpAnyH_ready (rs:= [11]) (by kernel_rfl) (by simp) ?_
    refine(AllReadyH.cons (o:=⟨none, .store 64 (.tmp 4) (.tmp 33),0,_,#[⟨9, .data⟩,⟨8, .chain⟩,⟨0, .phase⟩,⟨1, .phase⟩,⟨2, .phase⟩,⟨3, .phase⟩,⟨4, .phase⟩,⟨5, .phase⟩,⟨6, .phase⟩,⟨7, .phase⟩,⟨8, .phase⟩,⟨9, .phase⟩,⟨10, .phase⟩],none⟩) rfl (fun K hK=>?_) AllReadyH.nil)
    refine step_put 64 64 arrB rfl (.tmp 4) (.tmp 33) rfl gr (by rfl) R.l (by rfl) hR _ yr2 (by simp) ?_
    intro v7 y7 s7
    refine hK.out _ _ (hHeld.trans s7) (fun hHeld=>?_)
    clear hK K
    try simp only [Act.put]
    refine tk (i:=12) (oi:=⟨some 5, .assign (.tmp 34),28,_,#[⟨10, .data⟩,⟨11, .chain⟩,⟨0, .phase⟩,⟨1, .phase⟩,⟨2, .phase⟩,⟨3, .phase⟩,⟨4, .phase⟩,⟨5, .phase⟩,⟨6, .phase⟩,⟨7, .phase⟩,⟨8, .phase⟩,⟨9, .phase⟩,⟨10, .phase⟩,⟨11, .phase⟩],none⟩) (v:= .int .i64 e1) rfl (Or.inl ⟨by rfl,?_⟩) hHeld ?_
    · intro u hu
      go_simp
    try simp only [zp,zn,zq,zr,zs]
    refine wpAnyH_done (by kernel_rfl) ?_ _
    go_wp2_with fail
    refine bodyPost_ret (retAt arrB Tryz.results17 rfl rfl y7 hR) rfl ⟨rfl,VG.is (HV _ hHeld) (S4.next hHeld (fun x hx=> .inr (by subst hx;exact hgr))) gU⟩
  · rw [if_neg he,if_neg he]
    generalize hE0:V.c.holdE i=e0 at *
    generalize V.c.got i=B0 at *
    have hgl:=B0.len
    clear hE0
    go_enter Tryz.func17,Tryz.ntmps17
    go_wp2_with (first
      | (clear t1;refine at_new 64 64 arrB (by rfl) (by rfl) ?_;intro gr w1 a1 z1 r1 b1
         have H1:=H.later b1
         obtain⟨y0, -, -, -, -, -, -, -⟩:=H1.cells)
      | (go_at_call 76;refine(hG _ b1).mono ?_;rintro e w2 ⟨rfl,k2⟩;clear hG
         obtain⟨U2,H2,s2,g2⟩:=H1.ofC k2 hp
         have r12:=r1.step s2 (fun hx=>by have:=H.ca.lt gr hx;omega)
         clear y0 k2 H1)
      | (refine at_new 64 64 arrB (by rfl) (by rfl) ?_;intro gb w3 a3 z3 r3 b3)
      | (refine at_bldB (by rfl) (by rfl) ?_)
      | (refine at_put 64 64 arrB (by rfl) _ _ (by rfl) gb (by rfl) B0.l (by rfl) hgl _ r3 (by simp) ?_;intro W r4 s4
         have r5:Row W gr (List.replicate 64 0):=(r12.later b3).step s4 (fun e=>by have:=s2.size;omega))
      | (refine at_put 64 64 arrB (by rfl) _ _ (by rfl) gr (by rfl) Blk.zero.l (by rfl) Blk.zero.len _ r5 (by simp) ?_;intro W6 r6 s6))
    have hw1:=b1.size
    have hw2:=s2.size
    have hw3:=b3.size
    have nU:¬Vt A U2 E F gr:=fun hx=>by
      rcases hx with h | h
      · rcases g2 gr h with e | e
        · have:=H.ca.lt gr e;omega
        · omega
      · have:=hlt gr (.inr h);omega
    have H3:Vx W A { V with c:=V.c.hold i} U2 E F:=(H2.later b3).step s4 (fun x hx e=>by subst e;have:=H2.lt _ hx;omega)
    have S4:Stp T u W:=(((Stp.of_below b1 T).next s2 (fun x hx=> .inl ((hT x).2 (.inl hx)))).trans (Stp.of_below b3 T)).next s4 (fun x hx=> .inr (by subst hx;omega))
    have gU:∀ x,Vt A U2 E F x→T x∨u.heap.size≤x:=Vt.more hT (fun x hx=>by rcases g2 x hx with e | e;exact .inl e;exact .inr (by omega)) (fun x hx=> .inl hx) (fun x hx=> .inl hx)
    have hgr:u.heap.size≤gr:=a1
    refine bodyPost_ret (retAt arrB Tryz.results17 rfl rfl r6 Blk.zero.len) rfl ⟨rfl,VG.is (H3.step s6 (fun y hy e=>by subst e;exact nU hy)) (S4.next s6 (fun x hx=> .inr (by subst hx;exact hgr))) gU⟩
end
section
variable {u : World} {A : VA} {V : VZ} {U E F T X : Nat → Prop} {t k : Nat}
set_option maxRecDepth 100000 in
set_option maxHeartbeats 4000000 in
theorem vstore_any (H:Vx u A V U E F) (ok:VOk t k V) (ht:t≤8990) (i:Int) (hi:wfi i) (b:Blk) (f:Bool):
    Calls Tryz.prog 222 #[.pointer (some ⟨A.v,0,none⟩), .int .i64 i, .agg b.cs.toArray, .bool f] u fun e w'=>e= .returned (.int .i64 (stoE V.c i b f))∧∃ U',Vx w' A { V with c:=sto V.c i b f} U' E F∧Stp U u w'∧Grew U U' u w':=by
  have hb:=b.len
  unfold stoE sto
  cases f
  · simp only [Bool.false_eq_true,if_false]
    have hP:=fun w' (c:Below u.heap.size u w')=>put_ca (H.later c).ca ok.c (by omega) i hi b
    have hp1:=(ok.p.put i b).ex
    have hok1:=ok.c.put i b
    have hp2:=((ok.p.put i b).back i).ex
    obtain⟨e0,he0⟩:∃ e,Hid (V.c.holdE i=e):=⟨_,rfl⟩
    rw [he0.out]at hP ⊢
    obtain⟨C1,hC1⟩:∃ c,Hid (V.c.put i b=c):=⟨_,rfl⟩
    rw [hC1.out]at hP hp1 hok1 hp2 ⊢
    go_enter Tryz.func222,Tryz.ntmps222
    go_wp2_with (first
      | (refine at_box 64 64 arrB (by rfl) _ (by rfl) b.l (by rfl) hb ?_;intro g1 w1 a1 z1 r1 b1))
    have H1:=H.later b1
    have ng:¬U g1:=fun hf=>by have:=H.ca.lt g1 hf;omega
    refine wp_region_held_drew (S:=fun x=>Stp U w1 x) (by kernel_rfl) (Stp.refl _ _).drew (fun hHeld=>?_)
    refine tk (i:=0) (oi:=⟨some 18, .move (.tmp 0),27,_,#[],none⟩) (v:= .pointer (some ⟨A.v,0,none⟩)) rfl (Or.inl ⟨by rfl,?_⟩) hHeld ?_
    · intro u hu
      go_simp
    try simp only [zp,zn,zq,zr,zs]
    refine tk (i:=1) (oi:=⟨some 19, .nilCheck (.tmp 18),0,_,#[⟨0, .data⟩],none⟩) (v:= .pointer (some ⟨A.v,0,none⟩)) rfl (Or.inl ⟨by rfl,?_⟩) hHeld ?_
    · intro u hu
      go_simp
    try simp only [zp,zn,zq,zr,zs]
    refine tk (i:=2) (oi:=⟨some 20, .fieldAddr 117 (.tmp 19) 0,0,_,#[⟨1, .data⟩],none⟩) (v:= .pointer (some ⟨A.v,0,none⟩)) rfl (Or.inl ⟨by rfl,?_⟩) hHeld ?_
    · intro u hu
      go_simp
    try simp only [zp,zn,zq,zr,zs]
    refine tk (i:=3) (oi:=⟨some 21, .load 107 (.tmp 20),107,_,#[⟨2, .data⟩],none⟩) (v:= .pointer (some ⟨A.c,0,none⟩)) rfl (Or.inl ⟨by rfl,?_⟩) hHeld ?_
    · intro u hu
      have x1:=(H1.c.step hu H1.uv.1).cell 0 _ rfl;go_simp
    try simp only [zp,zn,zq,zr,zs]
    refine tk (i:=4) (oi:=⟨some 22, .move (.tmp 1),3,_,#[],none⟩) (v:= .int .i64 i) rfl (Or.inl ⟨by rfl,?_⟩) hHeld ?_
    · intro u hu
      go_simp
    try simp only [zp,zn,zq,zr,zs]
    refine tk (i:=5) (oi:=⟨some 23, .load 64 (.tmp 6),64,_,#[],none⟩) (v:= .agg b.cs.toArray) rfl
      (yields_row 64 64 arrB (by rfl) (.tmp 6) rfl g1 (by rfl) b.l hb (fun u hu=>r1.step hu ng)) hHeld ?_
    try simp only [zp,zn,zq,zr,zs]
    refine wpAnyH_ready (rs:= [6]) (by kernel_rfl) (by simp) ?_
    refine(AllReadyH.cons (o:=⟨some 24, .call { callee:=Callee.value (.func 277),args:=#[.tmp 21, .tmp 22, .tmp 23],argTypes:=#[107,3,64]},28,_,#[⟨3, .data⟩,⟨4, .data⟩,⟨5, .data⟩],none⟩) rfl (fun K hK=>?_) AllReadyH.nil)
    go_simp
    refine(hP _ (bnext b1 (Below.refl _ _).drew (Nat.le_refl _))).mono ?_
    rintro e v3 ⟨rfl,k3⟩
    try go_wp2_with fail
    refine hK.out _ _ ((Stp.refl U w1).drew.trans k3.stp) (fun hHeld=>?_)
    clear hK K
    try simp only [zp,zn,zq,zr,zs]
    refine tk (i:=7) (oi:=⟨some 9, .assign (.tmp 24),28,_,#[⟨6, .data⟩,⟨6, .chain⟩,⟨0, .phase⟩,⟨1, .phase⟩,⟨2, .phase⟩,⟨3, .phase⟩,⟨4, .phase⟩,⟨5, .phase⟩,⟨6, .phase⟩],none⟩) (v:= .int .i64 e0) rfl (Or.inl ⟨by rfl,?_⟩) hHeld ?_
    · intro u hu
      go_simp
    try simp only [zp,zn,zq,zr,zs]
    refine wpAnyH_done (by kernel_rfl) ?_ _
    obtain⟨U3,H3,s3,g3⟩:=(H1.later (Below.refl _ _).drew).ofC k3 hp1
    have hsz:w1.drew.heap.size=w1.heap.size:=rfl
    have hs1:=b1.size
    have S3:Stp U u v3:=(Stp.of_below (bnext b1 (Below.refl _ _).drew (Nat.le_refl _)) U).trans s3
    have G3:Grew U U3 u v3:=fun x hx=>by rcases g3 x hx with e | e;exact .inl e;exact .inr (by omega)
    clear hP r1 H1 k3 s3 g3 hHeld
    by_cases h0:e0=0
    · subst h0
      have hB:=back_ca H3.ca hok1 (by omega) i hi
      have y0:=H3.cells.1
      go_wp2_with (first
        | (go_at_call 278;refine hB.mono ?_;rintro e w4 ⟨rfl,k4⟩;clear hB))
      go_returns
      simp only [if_true]
      obtain⟨U4,H4,s4,g4⟩:=H3.ofC k4 hp2
      have hs3:=S3.size
      exact⟨rfl,U4,H4,S3.next s4 (fun x hx=>by rcases G3 x hx with e | e;exact .inl e;exact .inr e.1),G3.trans g4 S3.size s4.size⟩
    · have hd0:¬e0=0:=h0
      go_wp2_with fail
      go_returns
      simp only [if_neg h0]
      exact⟨rfl,U3,H3,S3,G3⟩
  · simp only [if_true]
    have hP:=fun w' (c:Below u.heap.size u w')=>force_ca (H.later c).ca ok.c (by omega) i hi b
    have hp1:=(ok.p.force i b).ex
    obtain⟨e0,he0⟩:∃ e,Hid (V.c.forceE i=e):=⟨_,rfl⟩
    rw [he0.out]at hP ⊢
    go_enter Tryz.func222,Tryz.ntmps222
    go_wp2_with (first
      | (refine at_box 64 64 arrB (by rfl) _ (by rfl) b.l (by rfl) hb ?_;intro g1 w1 a1 z1 r1 b1))
    have H1:=H.later b1
    have ng:¬U g1:=fun hf=>by have:=H.ca.lt g1 hf;omega
    refine wp_region_held_drew (S:=fun x=>Stp U w1 x) (by kernel_rfl) (Stp.refl _ _).drew (fun hHeld=>?_)
    refine tk (i:=0) (oi:=⟨some 11, .move (.tmp 0),27,_,#[],none⟩) (v:= .pointer (some ⟨A.v,0,none⟩)) rfl (Or.inl ⟨by rfl,?_⟩) hHeld ?_
    · intro u hu
      go_simp
    try simp only [zp,zn,zq,zr,zs]
    refine tk (i:=1) (oi:=⟨some 12, .nilCheck (.tmp 11),0,_,#[⟨0, .data⟩],none⟩) (v:= .pointer (some ⟨A.v,0,none⟩)) rfl (Or.inl ⟨by rfl,?_⟩) hHeld ?_
    · intro u hu
      go_simp
    try simp only [zp,zn,zq,zr,zs]
    refine tk (i:=2) (oi:=⟨some 13, .fieldAddr 117 (.tmp 12) 0,0,_,#[⟨1, .data⟩],none⟩) (v:= .pointer (some ⟨A.v,0,none⟩)) rfl (Or.inl ⟨by rfl,?_⟩) hHeld ?_
    · intro u hu
      go_simp
    try simp only [zp,zn,zq,zr,zs]
    refine tk (i:=3) (oi:=⟨some 14, .load 107 (.tmp 13),107,_,#[⟨2, .data⟩],none⟩) (v:= .pointer (some ⟨A.c,0,none⟩)) rfl (Or.inl ⟨by rfl,?_⟩) hHeld ?_
    · intro u hu
      have x1:=(H1.c.step hu H1.uv.1).cell 0 _ rfl;go_simp
    try simp only [zp,zn,zq,zr,zs]
    refine tk (i:=4) (oi:=⟨some 15, .move (.tmp 1),3,_,#[],none⟩) (v:= .int .i64 i) rfl (Or.inl ⟨by rfl,?_⟩) hHeld ?_
    · intro u hu
      go_simp
    try simp only [zp,zn,zq,zr,zs]
    refine tk (i:=5) (oi:=⟨some 16, .load 64 (.tmp 6),64,_,#[],none⟩) (v:= .agg b.cs.toArray) rfl
      (yields_row 64 64 arrB (by rfl) (.tmp 6) rfl g1 (by rfl) b.l hb (fun u hu=>r1.step hu ng)) hHeld ?_
    try simp only [zp,zn,zq,zr,zs]
    refine wpAnyH_ready (rs:= [6]) (by kernel_rfl) (by simp) ?_
    refine(AllReadyH.cons (o:=⟨some 17, .call { callee:=Callee.value (.func 276),args:=#[.tmp 14, .tmp 15, .tmp 16],argTypes:=#[107,3,64]},28,_,#[⟨3, .data⟩,⟨4, .data⟩,⟨5, .data⟩],none⟩) rfl (fun K hK=>?_) AllReadyH.nil)
    go_simp
    refine(hP _ (bnext b1 (Below.refl _ _).drew (Nat.le_refl _))).mono ?_
    rintro e v3 ⟨rfl,k3⟩
    try go_wp2_with fail
    refine hK.out _ _ ((Stp.refl U w1).drew.trans k3.stp) (fun hHeld=>?_)
    clear hK K
    try simp only [zp,zn,zq,zr,zs]
    refine tk (i:=7) (oi:=⟨some 8, .assign (.tmp 17),28,_,#[⟨6, .data⟩,⟨6, .chain⟩,⟨0, .phase⟩,⟨1, .phase⟩,⟨2, .phase⟩,⟨3, .phase⟩,⟨4, .phase⟩,⟨5, .phase⟩,⟨6, .phase⟩],none⟩) (v:= .int .i64 e0) rfl (Or.inl ⟨by rfl,?_⟩) hHeld ?_
    · intro u hu
      go_simp
    try simp only [zp,zn,zq,zr,zs]
    refine wpAnyH_done (by kernel_rfl) ?_ _
    obtain⟨U3,H3,s3,g3⟩:=(H1.later (Below.refl _ _).drew).ofC k3 hp1
    have hsz:w1.drew.heap.size=w1.heap.size:=rfl
    have hs1:=b1.size
    have S3:Stp U u v3:=(Stp.of_below (bnext b1 (Below.refl _ _).drew (Nat.le_refl _)) U).trans s3
    have G3:Grew U U3 u v3:=fun x hx=>by rcases g3 x hx with e | e;exact .inl e;exact .inr (by omega)
    go_wp2_with fail
    go_returns
    exact⟨rfl,U3,H3,S3,G3⟩
end
end Go.Proofs.YtogdffonjhghcaaGreatDoor
