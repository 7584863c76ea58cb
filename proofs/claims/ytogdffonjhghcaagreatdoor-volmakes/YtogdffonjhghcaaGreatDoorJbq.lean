/-
  Texts of my own, joined: no statement is proved here.
-/
import Derived.Deep.DeepCutAuto
import Derived.Test.YtogdffonjhghcaaGreatDoorJbn
import Derived.Test.YtogdffonjhghcaaGreatDoorJbp
set_option linter.unusedSimpArgs false
set_option linter.unusedVariables false
namespace Go.Proofs.YtogdffonjhghcaaGreatDoor
open Go.ChangeShapes Go.WideShapes Go.ChangeAt Go.RowKit
set_option maxRecDepth 100000
theorem Zmy (S:DS) {k:Nat} (hk:k < S.n):(shw S).take (k+1)=(shw S).take k++ [S.shown (k:Int)]:=by
 have h:(shw S)[k]? =some (S.shown (k:Int)):=by unfold shw;rw [List.getElem?_map,List.getElem?_range hk];rfl
 rw [List.take_add_one,h];rfl
theorem elBk:ElT 22 64 64:=⟨by kernel_rfl,⟨.agg Blk.zero.cs.toArray,64,by kernel_rfl,rfl,by omega⟩,by omega⟩
theorem Zij (l r:List Blk):Z0f (l++r)=Z0f l++Z0f r:=by unfold Z0f;simp
theorem Zod (b:Blk):Z0f [b]=b.cs:=by unfold Z0f;simp
structure OwBk (u wr:World) (v:Value) (l:List Blk):Prop where
 ow:wr.ownsRow 0 64 64 v l.length (Z0f l)
 nw:New u.heap.size v
 b:Below u.heap.size u wr
theorem OwBk.later {u wr w':World} {v:Value} {l:List Blk} (h:OwBk u wr v l) (k:Below wr.heap.size wr w'):OwBk u w' v l:=⟨Z25 h.ow k,h.nw,Z01 h.b k (Nat.le_refl _)⟩
theorem OwBk.app {u wr w':World} {v v':Value} {l:List Blk} {c:Blk} (h:OwBk u wr v l) (hA:Apd wr u.heap.size 64 64 v l.length 1 (Z0f l++c.cs) v' w'):OwBk u w' v' (l++ [c]):=by
 obtain⟨h1,h2,h3,h4,h5⟩:=hA
 refine⟨by rw [List.length_append,Zij,Zod];exact h1,h2,?_⟩
 exact((Stp.of_below h.b (fun _=>False)).next h4 (fun x e=> .inr (h.nw x e))).below (Nat.le_refl _) (fun x e=>e.elim)
theorem OwBk.bls {u wr:World} {v:Value} {l:List Blk} (h:OwBk u wr v l):∃ a c,v= .slice a l.length c∧BlsU wr a l.length c l:=by
 rcases h.ow.2 with⟨e,e2⟩ | ⟨g,cap,cur,e,_⟩
 · have hl:l= []:=List.eq_nil_of_length_eq_zero e2
   subst hl
   exact⟨none,0,e,BlsU.nilSlice wr⟩
 · refine⟨some ⟨g,0,none⟩,cap,e,?_⟩
   have h2:=h.ow
   rw [e]at h2
   exact(Wd.own h2).bls
section
variable {ops : Array Oper} {rest : List Oper} {o : Oper} {a : Act} {w : World} {Q : Exit → Act → World → Prop}
theorem Znt (hw:Region.wanted o (yielded ops a.tmps)=true) (x:Operand) (ho:o.op= .buildSlice 22 1 #[(0,x)]) (c:Blk) (hx:a.eval x= .agg c.cs.toArray)
 (h:∀ g w',w.heap.size≤g→w'.rangeAt g 0 c.cs→Below w.heap.size w w'→wpList Tryz.prog ops Q rest (a.put o.dst (.slice (some ⟨g,0,none⟩) 1 1)) w'):wpList Tryz.prog ops Q (o::rest) a w:=by
 refine Z09 hw _ _ ?_ (h w.heap.size (w.alloc (.cells c.cs.toArray 64)) (Nat.le_refl _) (Cs.made w c.cs _ c.cs_one).range ((Below.refl _ _).alloc (Nat.le_refl _) _))
 have hb:(Instr.buildSlice 22 1 #[(0, .agg c.cs.toArray)]).run Tryz.prog w= .ok (.slice (some ⟨w.heap.size,0,none⟩) 1 1) (w.alloc (.cells c.cs.toArray 64)):=Zc2 c w
 simp only [execOp,ho,Sem.run_bind,List.map_toArray,List.map_cons,List.map_nil,hx,hb];rfl
end
def NewR (u w':World) (y q x:Nat) (d:DS) (s:PS) (n:Int) (R:Nat→Prop) (gY:Nat):Prop:=∃ yc gp,(u.heap.size≤gY∧u.heap.size≤yc∧u.heap.size≤gp∧yc≠gp∧gY≠yc∧gY≠gp)∧
 Cs w' gY [.int .i64 (fdG (shw d)).g, .int .i64 (fdG (shw d)).i, .int .i64 (fdG (shw d)).d, .pointer (some ⟨y,0,none⟩), .pointer (some ⟨x,0,none⟩), .pointer (some ⟨yc,0,none⟩), .pointer (some ⟨gp,0,none⟩), .slice none 0 0]∧Rx w' yc y q (CZ.new d (some s) n.toNat) s (.slice none 0 0) (fun z=>z=yc) R∧Rh w' gp GZ.new (fun _=>False)
set_option maxHeartbeats 4000000 in
theorem Zhd {u:World} {y q x:Nat} {d:DS} {s:PS} {R:Nat→Prop} (hd:RD u y q d R) (hr:Rw u q (ref s)) (hq:¬R q) (hqt:q < u.heap.size) (n:Nat) (h1:1≤n) (h2:n≤64) (hn2:d.n≤2048):
 Calls Tryz.prog 45 #[.pointer (some ⟨y,0,none⟩), .pointer (some ⟨x,0,none⟩), .int .i64 (n:Int)] u fun e w'=>∃ pv,e= .returned (.tuple #[.pointer pv, .int .i64 (fdE (shw d))])∧Below u.heap.size u w'∧TwoR (fdE (shw d)) pv (NewR u w' y q x d s (n:Int) R):=by
 have hC:=Zh1 hd hr hq hqt n h1 h2
 have hFd:∀ w' a c,BlsU w' a (shw d).length c (shw d)→_:=fun w' a c h=>Zh4 a (shw d).length c (shw d) w' h
 have hRd:=fun w' (b:Below u.heap.size u w') (i:Nat) (hi:i < d.n)=>Z7f (hd.step (Stp.of_below b (fun _=>False)) (fun _ _=>id)) (i:Int) (Z0z (by omega))
 have hc1:∃ s0,∀ w',Below u.heap.size u w'→w'.cell? ⟨y,1,none⟩=some (.slice (some ⟨s0,0,none⟩) d.n d.n):=by
  obtain⟨s0,t0,v0,hk⟩:=hd
  exact⟨s0,fun w' b=>(Stp.of_below b (fun _=>False)).cell hk.c1 id⟩
 obtain⟨s0,hc1⟩:=hc1
 have hTk:∀ k,k < d.n→_:=fun k hk=>Zmy d (k:=k) hk
 have hln:=Zpn d
 unfold NewR
 generalize fdG (shw d)=sg at *
 generalize fdI (shw d)=si at *
 generalize fdE (shw d)=e0 at *
 generalize hL:shw d=L at *
 have hLl:Hid (L.length=d.n):=hln
 clear hln hL
 go_enter Tryz.func45,Tryz.ntmps45
 go_wp2_with (first
  | (go_at_call 104;refine hC.mono ?_;rintro e w2 ⟨yc,rfl,l2,rx,b2⟩;clear hC))
 have start:OwBk w2 _ _ []:=⟨World.ownsRow_made w2 #[] 0 (Nat.zero_le _) (Nat.zero_le _) rfl,fun r e=>by
  have:w2.heap.size=r:=by simpa [Value.ownBlock]using e
  omega,(Below.refl _ w2).alloc (Nat.le_refl _) _⟩
 go_loopw [10,11] (fun v i wr=>∃ (k:Nat) (a:Option Addr) (c:Nat),k≤d.n∧v= .slice a k c∧i= .int .i64 (k:Int)∧OwBk w2 wr (.slice a k c) (L.take k)) (fun _ i _=>d.n - (intOf i).toNat)
 case atStart=>exact⟨0,_,_,Nat.zero_le _,rfl,rfl,start⟩
 case round=>
  clear start
  obtain⟨k,a0,c0,hk,rfl,rfl,I⟩:=hrel
  have y1:=hc1 _ (Z01 b2 I.b (Nat.le_refl _))
  by_cases hlt:k < d.n
  · have hlt':(k:Int) < (d.n:Int):=by omega
    have hRk:=hRd _ (Z01 b2 I.b (Nat.le_refl _)) k hlt
    have hT1:Hid (L.take (k+1)=L.take k++ [d.shown (k:Int)]):=hTk k hlt
    have hlk:Hid ((L.take k).length=k):=by show _=_;rw [List.length_take,hLl.out];omega
    generalize d.shown (k:Int)=X at *
    generalize Z0l d (k:Int)=x0 at *
    have hxl:=X.len
    obtain⟨dn,hdn⟩:∃ m,Hid (d.n=m):=⟨_,rfl⟩
    have hkn:k < dn:=by rw [← hdn.out];exact hlt
    rw [hdn.out]at y1 hlt'
    go_wp2_with (first
     | (go_at_call 55;refine hRk.mono ?_;rintro e w4 ⟨rfl,b4⟩;clear hRk)
     | (refine Z03 64 64 arrB (by rfl) (by rfl) ?_;intro g5 w5 a5 z5 r5 b5)
     | (refine Z02 64 64 arrB (by rfl) _ _ (by rfl) g5 (by rfl) X.l (by rfl) hxl _ r5 (by simp) ?_;intro w6 r6 s6
        have B6:Below wr.heap.size wr w6:=((Stp.of_below (Z01 b4 b5 (Nat.le_refl _)) (fun _=>False)).next s6 (fun x e=> .inr (by have:=b4.size;omega))).below (Nat.le_refl _) (fun x e=>e.elim))
     | (refine Z04 64 64 arrB (by rfl) _ (by rfl) g5 (by rfl) _ r6 hxl ?_)
     | (refine Znt (by rfl) _ (by rfl) X (by rfl) ?_;intro g7 w7 a7 r7 b7
        have I7:=I.later (Z01 B6 b7 (Nat.le_refl _))
        have ow7:=I7.ow
        rw [hlk.out]at ow7)
     | (at_builtin;refine Z2m elBk w2.heap.size rfl _ _ (by rfl) (by rfl) ow7 I7.nw (some ⟨g7,0,none⟩) 1 X.cs (m:=1) (by rfl) (by rw [X.cs_len]) (fun e=>by cases e) (fun ad e j v hv=>by injection e with e;subst e;rw [Addr.add_mid];exact r7 j v hv) X.cs_one (by omega) I7.b.size ?_
        intro v8 w8 hA))
    have I8:OwBk w2 w8 v8 (L.take (k+1)):=by rw [hT1.out];exact I7.app (by rw [hlk.out];exact hA)
    have hl8:(L.take (k+1)).length=k+1:=by rw [List.length_take,hLl.out];omega
    obtain⟨a8,c8,e8, -⟩:=I8.bls
    rw [hl8]at e8
    subst e8
    clear hl8
    go_wp2_with fail
    go_roundw
    case rel=>exact⟨k+1,a8,c8,by omega,rfl,by go_num,I8⟩
    case measure=>simp [intOf];omega
  · have hk':k=d.n:=by omega
    subst hk'
    have hT2:L.take d.n=L:=by rw [← hLl.out,List.take_length]
    rw [hT2]at I
    obtain⟨a8,c8,e8,B8⟩:=I.bls
    have hF8:=hFd _ _ _ B8
    rw [hLl.out]at e8 hF8
    injection e8 with e8 e9 e10
    subst e8;subst e10
    have hIb:=I.b
    clear I B8 hFd hRd hTk hT2 hlt hk e9
    by_cases hf:e0=0
    · subst hf
      go_wp2_with (first
       | (go_at_call 105;refine hF8.mono ?_;rintro e w4 ⟨rfl,b4⟩;clear hF8)
       | (refine Z0r (by rfl) (by rfl) ?_;intro g5 w5 a6 z6 r5 b5)
       | (refine Z0k (by rfl) _ _ (by rfl) g5 (by rfl) sg (by rfl) _ r5 ?_;intro W r6 s6))
      have B2W:Below w2.heap.size w2 W:=((Stp.of_below (Z01 (Z01 hIb b4 (Nat.le_refl _)) b5 (Nat.le_refl _)) (fun _=>False)).next s6 (fun x e=> .inr (by have:=hIb.size;have:=b4.size;omega))).below (Nat.le_refl _) (fun x e=>e.elim)
      have BW:Below u.heap.size u W:=Z01 b2 B2W (Nat.le_refl _)
      refine wp_region_held_drew (S:=fun x=>Below W.heap.size W x) (by kernel_rfl) (Below.refl _ _).drew (fun hHeld=>?_)
      refine tm 0 (gv sg) rfl
       (Z2k (by rfl) _ (by rfl) g5 (by rfl) sg (fun x hx=>r6.later hx)) ?_
      try simp only [z]
      refine tl 1 (.pointer (some ⟨y,0,none⟩)) rfl ?_
      try simp only [z]
      refine tl 2 (.pointer (some ⟨x,0,none⟩)) rfl ?_
      try simp only [z]
      refine tl 3 (.pointer (some ⟨yc,0,none⟩)) rfl ?_
      try simp only [z]
      refine rd 4 rfl (fun K hK=>?_)
      go_simp
      refine(Z8v _).mono ?_
      rintro e v1 ⟨rfl,q1,c1⟩
      try go_wp2_with fail
      refine hK.out _ _ (Z01 hHeld c1 (Nat.le_refl _)) (fun hHeld=>?_)
      clear hK K
      try simp only [z]
      refine tl 5 (.agg #[.int .i64 sg.g, .int .i64 sg.i, .int .i64 sg.d, .pointer (some ⟨y,0,none⟩), .pointer (some ⟨x,0,none⟩), .pointer (some ⟨yc,0,none⟩), .pointer (some ⟨W.drew.heap.size,0,none⟩), .slice none 0 0]) rfl ?_ (fun u hu=>by kernel_rfl)
      try simp only [z]
      refine rd 6 rfl (fun K hK=>?_)
      refine Z5d 76 rfl (.tmp 65) rfl [.int .i64 sg.g, .int .i64 sg.i, .int .i64 sg.d, .pointer (some ⟨y,0,none⟩), .pointer (some ⟨x,0,none⟩), .pointer (some ⟨yc,0,none⟩), .pointer (some ⟨W.drew.heap.size,0,none⟩), .slice none 0 0] (by rfl) (by intro v hv;simp at hv;rcases hv with rfl | rfl | rfl | rfl | rfl | rfl | rfl | rfl<;>rfl) ?_
      intro gV v8 m8 z8 r8 b8
      refine hK.out _ _ (Z01 hHeld b8 (Nat.le_refl _)) (fun hHeld=>?_)
      clear hK K
      try simp only [z]
      refine tl 7 (.pointer (some ⟨gV,0,none⟩)) rfl ?_
      try simp only [z]
      refine tl 8 (.int .i64 0) rfl ?_
      try simp only [z]
      refine wpAnyH_done (by kernel_rfl) ?_ _
      go_wp2_with fail
      go_returns
      have b8W:Below W.heap.size W v8:=hHeld
      have hyc:=rx.lt yc rx.eg
      have hW2:=B2W.size
      have hu2:=b2.size
      have hv1:W.heap.size < v1.heap.size:=by
       obtain⟨a,c,L',h⟩:=q1
       exact h.cc.lt
      have hdr:W.drew.heap.size=W.heap.size:=rfl
      exact⟨_,rfl,Z01 BW b8W (Nat.le_refl _), .inr ⟨rfl,gV,rfl,yc,W.drew.heap.size,⟨by omega,l2,by omega,by omega,by omega,by omega⟩,r8,rx.later (Z01 B2W b8W (Nat.le_refl _)),by obtain⟨a,c,L',h⟩:=q1;exact⟨a,c,L',h.later b8⟩⟩⟩
    · have hd0:¬e0=0:=hf
      go_wp2_with (first
       | (go_at_call 105;refine hF8.mono ?_;rintro e w4 ⟨rfl,b4⟩;clear hF8)
       | (refine Z0r (by rfl) (by rfl) ?_;intro g5 w5 a6 z6 r5 b5)
       | (refine Z0k (by rfl) _ _ (by rfl) g5 (by rfl) sg (by rfl) _ r5 ?_;intro W r6 s6))
      go_returns
      exact⟨none,rfl,Z01 b2 (((Stp.of_below (Z01 (Z01 hIb b4 (Nat.le_refl _)) b5 (Nat.le_refl _)) (fun _=>False)).next s6 (fun x e=> .inr (by have:=hIb.size;have:=b4.size;omega))).below (Nat.le_refl _) (fun x e=>e.elim)) (Nat.le_refl _), .inl ⟨hf,rfl⟩⟩
theorem Zk2 {u:World} (y x:Nat) (n:Int) (h:n < 1∨64 < n):
 Calls Tryz.prog 45 #[.pointer (some ⟨y,0,none⟩), .pointer (some ⟨x,0,none⟩), .int .i64 n] u fun e w'=>e= .returned (.tuple #[.pointer none, .int .i64 2])∧u=w':=by
 have hC:=Zjg (w:=u) y n h
 clear h
 go_enter Tryz.func45,Tryz.ntmps45
 go_wp2_with (first
  | (go_at_call 104;refine hC.mono ?_;rintro e w2 ⟨rfl,rfl⟩;clear hC))
 go_returns
 exact⟨rfl,rfl⟩
theorem Zk1 {u:World} {y q x:Nat} {d:DS} {s:PS} {R:Nat→Prop} (hd:RD u y q d R) (hr:Rw u q (ref s)) (hq:¬R q) (hqt:q < u.heap.size) (n:Int) (hn2:d.n≤2048):
 Calls Tryz.prog 45 #[.pointer (some ⟨y,0,none⟩), .pointer (some ⟨x,0,none⟩), .int .i64 n] u fun e w'=>∃ pv,e= .returned (.tuple #[.pointer pv, .int .i64 (mkE d n)])∧Below u.heap.size u w'∧TwoR (mkE d n) pv (NewR u w' y q x d s n R):=by
 by_cases hn:n < 1∨64 < n
 · have e:mkE d n=2:=by unfold mkE;rw [if_pos hn]
   rw [e]
   exact(Zk2 y x n hn).mono fun e w' ⟨h1,h2⟩=>⟨none,h1,h2▸Below.refl _ _, .inl ⟨by decide,rfl⟩⟩
 · have e:mkE d n=fdE (shw d):=by unfold mkE;rw [if_neg hn]
   rw [e]
   obtain⟨m,rfl⟩:∃ m:Nat,n=(m:Int):=⟨n.toNat,by omega⟩
   exact Zhd hd hr hq hqt m (by omega) (by omega) hn2
set_option maxRecDepth 100000
theorem Zd7 (w:World):Calls Tryz.prog 35 #[] w fun e w'=>∃ g,e= .returned (.pointer (some ⟨g,0,none⟩))∧w.heap.size≤g∧g < w'.heap.size∧Pw w' g PS.fresh∧Below w.heap.size w w':=
 (Zmc w).mono fun e w' ⟨h1,h2,h3,h4⟩=>⟨_,h1,Nat.le_refl _,by omega,h3,h2⟩
theorem Zpg (w:World):Calls Tryz.prog 36 #[] w fun e w'=>∃ g,e= .returned (.pointer (some ⟨g,0,none⟩))∧w.heap.size≤g∧g < w'.heap.size∧Rw w' g (ref PS.fresh)∧Below w.heap.size w w':=
 (Zjp w).mono fun e w' ⟨h1,h2,h3,h4⟩=>⟨_,h1,Nat.le_refl _,by omega,h3,h2⟩
theorem Zr2 (s:Nat) (w:World):Calls Tryz.prog 41 #[.pointer (some ⟨s,0,none⟩)] w fun e w'=>∃ g,e= .returned (.pointer (some ⟨g,0,none⟩))∧w.heap.size≤g∧g < w'.heap.size∧Ww w' g ⟨0,0,0⟩ (some s)∧Below w.heap.size w w':=
 (Z8r (some s) w).mono fun e w' ⟨h1,h2,h3,h4⟩=>⟨_,h1,Nat.le_refl _,by omega,h3,h2⟩
section
variable {ops : Array Oper} {rest : List Oper} {o : Oper} {a : Act} {w : World} {K : Act → World → Prop} {Q : Exit → Act → World → Prop} {R : Prop}
theorem Zfq (T g i:Nat) (hs:∀ w,(sizeOf T).run Tryz.prog w= .ok 1 w) (p:Option Addr) (cs:List Value) (hR:Cs w g cs) (hi:i < cs.length):(storeVar T ⟨g,i,none⟩ (.pointer p)).run Tryz.prog w= .ok () (w.setCell ⟨g,i,none⟩ (.pointer p)):=by
 have hc:=hR.cell i _ (List.getElem?_eq_getElem hi)
 have hf:=hR.frozen i
 go_simp
theorem Zcc (T:Nat) (hs:∀ w,(sizeOf T).run Tryz.prog w= .ok 1 w) (hw:Region.wanted o (yielded ops a.tmps)=true) (x y:Operand) (ho:o.op= .store T x y) (g i:Nat) (hx:a.eval x= .pointer (some ⟨g,i,none⟩)) (p:Option Addr) (hy:a.eval y= .pointer p) (cs:List Value) (hR:Cs w g cs) (hi:i < cs.length)
 (h:∀ w',Cs w' g (cs.set i (.pointer p))→Stp (fun x=>x=g) w w'→wpList Tryz.prog ops Q rest (a.put o.dst undef) w'):wpList Tryz.prog ops Q (o::rest) a w:=by
 refine Z35 hw _ ?_ (h (w.setCell ⟨g,i,none⟩ (.pointer p)) (hR.set i _ rfl) ((Stp.refl (fun x=>x=g) w).setCell (p:=⟨g,i,none⟩) (.inl rfl) _))
 simp only [execOp,ho,hx,hy,Instr.storeAt,Instr.sureAddr,Sem.run_bind,Sem.run_pure,Result.andThen_ok]
 rw [Zfq T g i hs p cs hR hi];rfl
theorem Z4h (T:Nat) (hs:∀ w,(sizeOf T).run Tryz.prog w= .ok 1 w) (hgd:o.guard=none) (x y:Operand) (ho:o.op= .store T x y) (g i:Nat) (hx:a.eval x= .pointer (some ⟨g,i,none⟩)) (p:Option Addr) (hy:a.eval y= .pointer p) (cs:List Value) (hR:Cs w g cs) (hi:i < cs.length)
 (h:∀ w',Cs w' g (cs.set i (.pointer p))→Stp (fun x=>x=g) w w'→K (a.put o.dst undef) w'):if Region.wanted o (yielded ops a.tmps)=true then Oper.wp Tryz.prog o a w K Q else R:=by
 have hw:Region.wanted o (yielded ops a.tmps)=true:=by simp [Region.wanted,hgd]
 rw [if_pos hw]
 have hr:(execOp a.eval o).run Tryz.prog w= .ok .skip (w.setCell ⟨g,i,none⟩ (.pointer p)):=by
  simp only [execOp,ho,hx,hy,Instr.storeAt,Instr.sureAddr,Sem.run_bind,Sem.run_pure,Result.andThen_ok]
  rw [Zfq T g i hs p cs hR hi];rfl
 unfold Oper.wp
 rw [hr]
 exact h _ (hR.set i _ rfl) ((Stp.refl (fun x=>x=g) w).setCell (p:=⟨g,i,none⟩) (.inl rfl) _)
end
theorem sz33 (w:World):(sizeOf 32).run Tryz.prog w= .ok 1 w:=by kernel_rfl
theorem sz34 (w:World):(sizeOf 33).run Tryz.prog w= .ok 1 w:=by kernel_rfl
theorem sz35 (w:World):(sizeOf 27).run Tryz.prog w= .ok 1 w:=by kernel_rfl
theorem sz37 (w:World):(sizeOf 35).run Tryz.prog w= .ok 1 w:=by kernel_rfl
theorem sz38 (w:World):(sizeOf 36).run Tryz.prog w= .ok 1 w:=by kernel_rfl
theorem sz39 (w:World):(sizeOf 37).run Tryz.prog w= .ok 1 w:=by kernel_rfl
end Go.Proofs.YtogdffonjhghcaaGreatDoor
