/-
  Texts of my own, joined: no statement is proved here.
-/
import Derived.OpenShut
import Derived.Test.YtogdffonjhghcaaGreatDoorJbu
import Derived.Test.YtogdffonjhghcaaGreatDoorJbx
set_option linter.unusedSimpArgs false
set_option linter.unusedVariables false
namespace Go.Proofs.YtogdffonjhghcaaGreatDoor
open Go.ChangeShapes Go.WideShapes Go.ChangeAt Go.RowKit
set_option maxRecDepth 100000
theorem Zff (Z:CZ) (i:Int):(Z.hold i).d.n=Z.d.n:=by
 unfold CZ.hold
 split
 · split
   · rfl
   · split
     · exact Zaq Z
     · exact Zaq Z
 · rfl
theorem Zku {ops:Array Oper} {o:Oper} {a:Act} {S:World→Prop} (hw:Region.wanted o (yielded ops a.tmps)=true) (y:Operand) (ho:o.op= .load 50 y) (g i:Nat) (hx:a.eval y= .pointer (some ⟨g,i,none⟩)) (s:Gm) (hS:∀ w,S w→w.rangeAt g i [.int .i64 s.g, .int .i64 s.i, .int .i64 s.d]):
 YieldsIf Tryz.prog ops S o (gv s) a:=by
 obtain⟨d,h1,h2⟩:=rowG
 exact yieldsIf_load_mid hw 50 y ho g i hx [.int .i64 s.g, .int .i64 s.i, .int .i64 s.d] _ hS h1 h2 (by rw [Zhh];rfl)
section
variable {W u : World} {P : WP} {V : VZ} {C : CZ} {T K : Nat → Prop} {t k : Nat}
theorem now0 (h:V.g=GZ.new) (i:Int):V.nowB i=V.c.nwB i∧V.nowE i=V.c.nwE i:=by
 have e:wtP V.g.l i= []:=by rw [h];rfl
 unfold VZ.nowB VZ.nowE CZ.nwB CZ.nwE
 rw [e,Zow,Zox]
 refine⟨rfl,?_⟩
 split
 · rename_i h;exact h.symm
 · rfl
theorem ld0 (h:V.g=GZ.new) (i k:Int):V.ldB i k=V.c.ldB i k∧V.ldE i k=V.c.ldE i k:=by
 unfold VZ.ldB VZ.ldE CZ.ldB CZ.ldE
 rw [(now0 h i).1,(now0 h i).2];exact⟨rfl,rfl⟩
theorem Ra.wait {yc y q:Nat} (h:Ra u yc y q C K):∃ s0 t0,∀ w,Below u.heap.size u w→w.cell? ⟨y,1,none⟩=some (.slice (some ⟨s0,0,none⟩) C.d.n C.d.n)∧w.cell? ⟨y,2,none⟩=some (.slice (some ⟨t0,0,none⟩) C.d.n C.d.n)∧∀ i:Nat,i < C.d.n→∃ a c,∀ w,Below u.heap.size u w→w.cell? ⟨t0,i,none⟩=some (.slice a (C.d.wt i).length c):=by
 obtain⟨s,lv,E,R,H,hV⟩:=h
 obtain⟨s0,t0,v,r⟩:=H.rd
 refine⟨s0,t0,fun w b=>⟨(Stp.of_below b (fun _=>False)).cell r.c1 id,(Stp.of_below b (fun _=>False)).cell r.c2 id,fun i hi=>?_⟩⟩
 obtain⟨a,c,e,_,_⟩:=r.wv i hi
 exact⟨a,c,fun w b=>by rw [← e];exact(Stp.of_below b (fun _=>False)).cell (r.wc i hi) id⟩
theorem Vo.waits {A:VA} (h:Vo u A V T) (i:Int) (hi:wfi i):
 Calls Tryz.prog 56 #[.pointer (some ⟨A.d,0,none⟩), .int .i64 i] u fun e w'=>e= .returned (.int .i64 (V.c.d.wt i).length)∧u=w':=by
 obtain⟨U,E,F,H,_⟩:=h
 obtain⟨mp,ov,f,E,F,G,H,_⟩:=H.ca
 exact Zkq H.dd.d i hi
theorem Vo.read {A:VA} (h:Vo u A V T) (i:Int) (hi:wfi i):
 Calls Tryz.prog 27 #[.pointer (some ⟨A.d,0,none⟩), .int .i64 i] u fun e w'=>e= .returned (.tuple #[.agg (V.c.d.shown i).cs.toArray, .int .i64 (Z0l V.c.d i)])∧Below u.heap.size u w':=by
 obtain⟨U,E,F,H,_⟩:=h
 exact Zfl H.ca i hi
theorem Vo.now {A:VA} (h:Vo u A V T) (ok:VOk t k V) (ht:t≤8990) (i:Int) (hi:wfi i):
 Calls Tryz.prog 17 #[.pointer (some ⟨A.v,0,none⟩), .int .i64 i] u fun e w'=>e= .returned (.tuple #[.agg (V.nowB i).cs.toArray, .int .i64 (V.nowE i)])∧VG A (V.look i) T u w':=by
 obtain⟨U,E,F,H,hT⟩:=h
 exact Z93 H ok ht i hi hT
theorem Vo.used {A:VA} (h:Vo u A V T) {s:PS} (hs:V.c.p=some s):
 Calls Tryz.prog 54 #[.pointer (some ⟨A.s,0,none⟩)] u fun e u'=>e= .returned (.int .i64 s.used)∧Below u.heap.size u u':=by
 obtain⟨U,E,F,H,_⟩:=h
 exact Zpx H.ca hs
theorem Vo.geom {A:VA} (h:Vo u A V T):
 Calls Tryz.prog 32 #[.pointer (some ⟨A.v,0,none⟩)] u fun e w'=>e= .returned (gv V.s)∧Below u.heap.size u w':=by
 obtain⟨U,E,F,H,_⟩:=h
 exact Zkj H
theorem Vo.pend {A:VA} (h:Vo u A V T) (h0:V.g=GZ.new):
 Calls Tryz.prog 24 #[.pointer (some ⟨A.v,0,none⟩)] u fun e w'=>e= .returned (.tuple #[.int .i64 0, .int .i64 0])∧Below u.heap.size u w':=by
 obtain⟨U,E,F,H,_⟩:=h
 have:=Ze3 H
 rw [h0]at this
 exact this
theorem Vo.says {A:VA} (h:Vo u A V T):
 Calls Tryz.prog 25 #[.pointer (some ⟨A.w,0,none⟩)] u fun e w'=>e= .returned (.tuple #[.int .u32 (V.w.says:Nat), .bool V.w.right])∧Below u.heap.size u w':=by
 obtain⟨U,E,F,H,_⟩:=h
 exact Z57 A.w V.w (some A.s) u H.ww
theorem Vo.graph {A:VA} (h:Vo u A V T) (h0:V.g=GZ.new):
 Calls Tryz.prog 33 #[.pointer (some ⟨A.v,0,none⟩)] u fun e w'=>∃ gq,e= .returned (.pointer (some ⟨gq,0,none⟩))∧(∃ E F,Gh w' gq GZ.new E F)∧Below u.heap.size u w':=by
 obtain⟨U,E,F,H,_⟩:=h
 refine(Zhn H).mono ?_
 rintro e w' ⟨gq,F',rfl,h1,_,h2⟩
 rw [h0]at h1
 exact⟨gq,rfl,⟨_,_,h1⟩,h2⟩
theorem OwV.none {w:World} {v:Value} (h:OwV w v []):∃ a c,v= .slice a 0 c:=by
 rcases h.row with⟨e,_⟩ | ⟨g,cap,cur,e,_⟩
 · exact⟨_,_,e⟩
 · exact⟨_,_,e⟩
theorem Zlv {g:Nat} (h:∃ E F,Gh u g GZ.new E F):
 Calls Tryz.prog 58 #[.pointer (some ⟨g,0,none⟩)] u fun e w'=>∃ a c,e= .returned (.slice a 0 c)∧Below u.heap.size u w':=by
 obtain⟨E,F,_,_,_,_,H⟩:=h
 refine(Z32 H).mono ?_
 rintro e w' ⟨v,rfl,h1,_,h2⟩
 obtain⟨a,c,rfl⟩:=OwV.none h1
 exact⟨a,c,rfl,h2⟩
theorem Zcp {g:Nat} (h:∃ E F,Gh u g GZ.new E F):
 Calls Tryz.prog 60 #[.pointer (some ⟨g,0,none⟩)] u fun e w'=>∃ a c,e= .returned (.slice a 0 c)∧Below u.heap.size u w':=by
 obtain⟨E,F,_,_,_,_,H⟩:=h
 refine(Z5k H).mono ?_
 rintro e w' ⟨v,rfl,h1,_,h2⟩
 obtain⟨a,c,rfl⟩:=OwV.none h1
 exact⟨a,c,rfl,h2⟩
theorem Zdm (a b:Option Addr) (c d:Nat) (w:World):
 Calls Tryz.prog 57 #[.slice a 0 c, .slice b 0 d] w fun e w'=>e= .returned (.bool true)∧w=w':=by
 go_enter Tryz.func57,Tryz.ntmps57
 go_wp2
 refine wp_loop_rounds 1 ?_
 rw [rounds_succ]
 go_wp2
 go_returns
 exact⟨rfl,rfl⟩
end
structure AkI (W wr:World) (P:WP) (V0 V:VZ) (T K:Nat→Prop) (t k i:Nat):Prop where
 wy:Wy W wr P V V.c T K
 ok:VOk (t+i) k V
 n:V.c.d.n=V0.c.d.n
set_option maxHeartbeats 8000000 in
theorem Zhu {W u:World} {P:WP} {V:VZ} {T K:Nat→Prop} {t k:Nat} (h:Wy W u P V V.c T K) (ok:VOk t k V) (hn:V.c.d.n≤2048) (ht:t≤6000) (hb:V.w.b < 256) (hr:V.w.c=sm V.w.a V.w.b):
 Calls Tryz.prog 12 #[.pointer (some ⟨P.g6,0,none⟩)] u fun e w'=>e= .returned (.bool true)∧Below W.heap.size W w':=by
 have hPe:=h.vo.pend h.g0
 have hSa:=fun w (b:Below u.heap.size u w)=>(h.later b).vo.says
 have hRs:=fun w (b:Below u.heap.size u w)=>Zdi (h.later b).ry.rn hb hr
 have y3:=h.cs.cell 3 _ rfl
 obtain⟨g,sY,sP,sG,sX,sE,sQ,A⟩:=P
 generalize V.w.says=sy at *
 generalize V.w.right=ry at *
 go_enter Tryz.func12,Tryz.ntmps12
 go_wp2_with (first
  | (go_at_call 24;refine hPe.mono ?_;rintro e w1 ⟨rfl,b1⟩;clear hPe y3;have y2:=(h.later b1).cs.cell 2 _ rfl)
  | (go_at_call 25;refine(hSa _ b1).mono ?_;rintro e w2 ⟨rfl,b2⟩;clear hSa y2;have B2:=Z01 b1 b2 (Nat.le_refl _);have y6:=(h.later B2).cs.cell 6 _ rfl)
  | (go_at_call 53;refine(hRs _ B2).mono ?_;rintro e w3 ⟨rfl,b3⟩;clear hRs y6))
 have h3:=h.later (Z01 B2 b3 (Nat.le_refl _))
 clear b1 b2 b3 B2 h
 have hW:=fun x (b:Below w3.heap.size w3 x)=>h3.later b
 obtain ⟨pa,pc,hpc⟩:∃ a c,∀ x,Below w3.heap.size w3 x→x.cell? ⟨sG,1,none⟩=some (.slice a 0 c):=by
  obtain⟨a,c,e⟩:=h3.ry.gh.none
  exact⟨a,c,fun x b=>(Stp.of_below b (fun _=>False)).cell e id⟩
 obtain⟨-, -,s,hsp, -⟩:=h3.ry.ra.counts
 have hct:∀ x,Below w3.heap.size w3 x→x.cell? ⟨sQ,1,none⟩=some (.int .i64 s.used):=fun x b=>by
  obtain⟨-, -,s',h4,h5⟩:=(hW x b).ry.ra.counts
  rw [hsp]at h4;injection h4 with h4;subst h4;exact h5
 have hUs:=fun x (b:Below w3.heap.size w3 x)=>(hW x b).vo.used hsp
 have hGe:=fun x (b:Below w3.heap.size w3 x)=>(hW x b).vo.geom
 have hcs:=fun x (b:Below w3.heap.size w3 x)=>(hW x b).cs
 have hyc:=fun x (b:Below w3.heap.size w3 x)=>(hW x b).ry.c
 clear hW hsp
 generalize s.used=us at *
 refine wp_region_held_drew (S:=fun x=>Below w3.heap.size w3 x) (by kernel_rfl) (Below.refl _ _).drew (fun hHeld=>?_)
 refine tl 0 (.int .i64 0) rfl ?_
 try simp only [z]
 refine tl 1 (.pointer (some ⟨g,0,none⟩)) rfl ?_
 try simp only [z]
 refine tl 2 (.pointer (some ⟨g,0,none⟩)) rfl ?_
 try simp only [z]
 refine tl 3 (.pointer (some ⟨g,7,none⟩)) rfl ?_
 try simp only [z]
 refine tl 4 (.pointer (some ⟨sY,0,none⟩)) rfl ?_ (fun u hu=>by have x1:=(hcs _ hu).cell 7 _ rfl;go_simp)
 try simp only [z]
 refine tl 5 (.pointer (some ⟨sY,0,none⟩)) rfl ?_
 try simp only [z]
 refine tl 6 (.pointer (some ⟨sY,6,none⟩)) rfl ?_
 try simp only [z]
 refine tl 7 (.pointer (some ⟨sG,0,none⟩)) rfl ?_ (fun u hu=>by have x1:=(hyc _ hu).cell 6 _ rfl;go_simp)
 try simp only [z]
 refine tl 8 (.pointer (some ⟨sG,0,none⟩)) rfl ?_
 try simp only [z]
 refine tl 9 (.pointer (some ⟨sG,1,none⟩)) rfl ?_
 try simp only [z]
 refine tl 10 (.slice pa 0 pc) rfl ?_ (fun u hu=>by have x1:=hpc _ hu;go_simp)
 try simp only [z]
 refine tl 11 (.int .i64 0) rfl ?_
 try simp only [z]
 refine tl 12 (.bool false) rfl ?_
 try simp only [z]
 refine tl 13 (.bool false) rfl ?_
 try simp only [z]
 refine tl 14 (.int .i64 0) rfl ?_
 try simp only [z]
 refine tl 15 (.pointer (some ⟨g,0,none⟩)) rfl ?_
 try simp only [z]
 refine tl 16 (.pointer (some ⟨g,0,none⟩)) rfl ?_
 try simp only [z]
 refine tl 17 (.pointer (some ⟨g,7,none⟩)) rfl ?_
 try simp only [z]
 refine tl 18 (.pointer (some ⟨sY,0,none⟩)) rfl ?_ (fun u hu=>by have x1:=(hcs _ hu).cell 7 _ rfl;go_simp)
 try simp only [z]
 refine tl 19 (.pointer (some ⟨sY,0,none⟩)) rfl ?_
 try simp only [z]
 refine tl 20 (.pointer (some ⟨sY,7,none⟩)) rfl ?_
 try simp only [z]
 refine tl 21 (.slice none 0 0) rfl ?_ (fun u hu=>by have x1:=(hyc _ hu).cell 7 _ rfl;go_simp)
 try simp only [z]
 refine tl 22 (.int .i64 0) rfl ?_
 try simp only [z]
 refine tl 23 (.bool false) rfl ?_
 try simp only [z]
 refine tl 24 (.bool false) rfl ?_
 try simp only [z]
 refine tl 25 (.bool false) rfl ?_
 try simp only [z]
 refine tl 26 (.int .u32 (sy:Nat)) rfl ?_
 try simp only [z]
 refine tl 27 (.int .u32 (sy:Nat)) rfl ?_
 try simp only [z]
 refine tl 28 (.bool false) rfl ?_
 try simp only [z]
 refine tl 29 (.bool false) rfl ?_
 try simp only [z]
 refine tl 30 (.bool false) rfl ?_
 try simp only [z]
 refine tl 31 (.bool ry) rfl ?_
 try simp only [z]
 refine tl 32 (.bool ry) rfl ?_
 try simp only [z]
 refine tl 33 (.bool false) rfl ?_
 try simp only [z]
 refine tl 34 (.bool false) rfl ?_
 try simp only [z]
 refine tl 35 (.bool false) rfl ?_
 try simp only [z]
 refine tl 36 (.pointer (some ⟨g,0,none⟩)) rfl ?_
 try simp only [z]
 refine tl 37 (.pointer (some ⟨g,0,none⟩)) rfl ?_
 try simp only [z]
 refine tl 38 (.pointer (some ⟨g,0,none⟩)) rfl ?_
 try simp only [z]
 refine tl 39 (.pointer (some ⟨A.s,0,none⟩)) rfl ?_ (fun u hu=>by have x1:=(hcs _ hu).cell 0 _ rfl;go_simp)
 try simp only [z]
 refine tl 41 (.pointer (some ⟨g,0,none⟩)) rfl ?_
 try simp only [z]
 refine tl 42 (.pointer (some ⟨g,0,none⟩)) rfl ?_
 try simp only [z]
 refine tl 43 (.pointer (some ⟨g,4,none⟩)) rfl ?_
 try simp only [z]
 refine tl 44 (.pointer (some ⟨sQ,0,none⟩)) rfl ?_ (fun u hu=>by have x1:=(hcs _ hu).cell 4 _ rfl;go_simp)
 try simp only [z]
 refine tl 45 (.pointer (some ⟨sQ,0,none⟩)) rfl ?_
 try simp only [z]
 refine tl 46 (.pointer (some ⟨sQ,1,none⟩)) rfl ?_
 try simp only [z]
 refine tl 47 (.int .i64 us) rfl ?_ (fun u hu=>by have x1:=hct _ hu;go_simp)
 try simp only [z]
 refine rd 40 rfl (fun K hK=>?_)
 go_simp
 refine(hUs _ hHeld).mono ?_
 rintro e v40 ⟨rfl,c40⟩
 try go_wp2_with fail
 refine hK.out _ _ (Z01 hHeld c40 (Nat.le_refl _)) (fun hHeld=>?_)
 clear hK K
 try simp only [z]
 refine tl 48 (.bool false) rfl ?_
 try simp only [z]
 refine tl 49 (.bool false) rfl ?_
 try simp only [z]
 refine tl 50 (.bool false) rfl ?_
 try simp only [z]
 refine tl 51 (.pointer (some ⟨g,0,none⟩)) rfl ?_
 try simp only [z]
 refine tl 52 (.pointer (some ⟨g,0,none⟩)) rfl ?_
 try simp only [z]
 refine tl 53 (.pointer (some ⟨g,3,none⟩)) rfl ?_
 try simp only [z]
 refine tl 54 (.pointer (some ⟨A.v,0,none⟩)) rfl ?_ (fun u hu=>by have x1:=(hcs _ hu).cell 3 _ rfl;go_simp)
 try simp only [z]
 refine tl 56 (.pointer (some ⟨g,0,none⟩)) rfl ?_
 try simp only [z]
 refine tl 57 (.pointer (some ⟨g,0,none⟩)) rfl ?_
 try simp only [z]
 refine tl 58 (.pointer (some ⟨g,7,none⟩)) rfl ?_
 try simp only [z]
 refine tl 59 (.pointer (some ⟨sY,0,none⟩)) rfl ?_ (fun u hu=>by have x1:=(hcs _ hu).cell 7 _ rfl;go_simp)
 try simp only [z]
 refine tl 60 (.pointer (some ⟨sY,0,none⟩)) rfl ?_
 try simp only [z]
 refine tl 61 (.pointer (some ⟨sY,0,none⟩)) rfl ?_
 try simp only [z]
 refine tm 62 (gv V.s) rfl
  (Zku (by rfl) _ (by rfl) sY 0 (by rfl) V.s (fun x hx j v hv=>by rw [Nat.zero_add];exact(hyc _ hx).cell j v (by rcases j with _ | _ | _ | j<;>simp at hv ⊢<;>exact hv))) ?_
 try simp only [z]
 refine rd 55 rfl (fun K hK=>?_)
 go_simp
 refine(hGe _ hHeld).mono ?_
 rintro e v55 ⟨rfl,c55⟩
 try go_wp2_with fail
 refine hK.out _ _ (Z01 hHeld c55 (Nat.le_refl _)) (fun hHeld=>?_)
 clear hK K
 try simp only [z]
 refine tl 63 (.bool false) rfl ?_ (fun u hu=>by(unfold gv;go_simp))
 try simp only [z]
 refine tl 64 (.bool false) rfl ?_
 try simp only [z]
 refine wpAnyH_done (by kernel_rfl) ?_ _
 have h5:=h3.later hHeld
 clear hUs hGe hcs hyc hct hpc h3 hHeld
 have start:AkI W _ ⟨g,sY,sP,sG,sX,sE,sQ,A⟩ V V T K t k 0:=⟨h5,ok,rfl⟩
 obtain⟨n,hn0⟩:∃ n,Hid (V.c.d.n=n):=⟨_,rfl⟩
 have hn2:n≤2048:=by rw [← hn0.out];exact hn
 clear h5
 go_wp2_with fail
 go_loopw [9] (fun x wr=>∃ (i:Nat) (V':VZ) (T' K':Nat→Prop),i≤n∧x= .int .i64 (i:Int)∧AkI W wr ⟨g,sY,sP,sG,sX,sE,sQ,A⟩ V V' T' K' t k i) (fun x _=>n - (intOf x).toNat)
 case atStart=>exact⟨0,V,T,K,Nat.zero_le _,rfl,start⟩
 case round=>
  clear start
  obtain⟨i,V1,T1,K1,hi,rfl,I⟩:=hrel
  have I0:=I.wy
  have okI:=I.ok
  have hn1:V1.c.d.n=n:=I.n.trans hn0.out
  obtain⟨s0,t0,hws⟩:=I0.ry.ra.wait
  rw [hn1]at hws
  obtain⟨q1,q2, -⟩:=hws wr (Below.refl _ _)
  have y5:=I0.cs.cell 5 _ rfl
  by_cases hlt:i < n
  · have hlt':(i:Int) < (n:Int):=by omega
    have hwi:wfi (i:Int):=Z0z (by omega)
    obtain⟨nB,nE⟩:=now0 I0.g0 (i:Int)
    have hRd:=I0.vo.read (i:Int) hwi
    have hRr:=fun w (h:Wy W w ⟨g,sY,sP,sG,sX,sE,sQ,A⟩ V1 V1.c T1 K1)=>Zmm h.ry.ra (i:Int) hwi
    have hNw:=fun w (h:Wy W w ⟨g,sY,sP,sG,sX,sE,sQ,A⟩ V1 V1.c T1 K1)=>h.vo.now okI (by omega) (i:Int) hwi
    have hRn:∀ w T,Wy W w ⟨g,sY,sP,sG,sX,sE,sQ,A⟩ (V1.look (i:Int)) V1.c T K1→_:=fun w T h=>Zbl h.ry okI.c (by omega) (i:Int) hwi
    rw [nB,nE]at hNw
    have hok2:Hid (VOk (t+(i+1)) k (V1.look (i:Int))∧(V1.look (i:Int)).c.d.n=V.c.d.n):=⟨okI.look _,(Zff V1.c (i:Int)).trans I.n⟩
    have hl0:=I0.lt
    generalize V1.c.d.shown (i:Int)=X at *
    generalize Z0l V1.c.d (i:Int)=x0 at *
    generalize V1.c.nwB (i:Int)=Y at *
    generalize V1.c.nwE (i:Int)=eY at *
    have hX:=X.len
    have hY:=Y.len
    have y1:=I0.cs.cell 1 _ rfl
    clear nB nE I hws
    go_wp2_with (first
     | (go_at_call 27;refine hRd.mono ?_;rintro e w1 ⟨rfl,b1⟩;clear hRd y1 y5 q1 q2;have a1:Hid True:=trivial)
     | (clear a1;refine Z03 64 64 arrB (by rfl) (by rfl) ?_;intro gA w2 l2 z2 rA b2;have a2:Hid True:=trivial)
     | (clear a2;refine Z02 64 64 arrB (by rfl) _ _ (by rfl) gA (by rfl) X.l (by rfl) hX _ rA (by simp) ?_;intro w3 rA3 s3
        have k1:=b1.size
        have I3:=I0.own (Z01 b1 b2 (Nat.le_refl _)) (Nat.le_trans k1 l2) s3
        have y5:=I3.cs.cell 5 _ rfl)
     | (go_at_call 55;refine(hRr _ I3).mono ?_;rintro e w4 ⟨rfl,b4⟩;clear hRr y5;have a4:Hid True:=trivial)
     | (clear a4;refine Z03 64 64 arrB (by rfl) (by rfl) ?_;intro gB w5 l5 z5 rB b5;have a5:Hid True:=trivial)
     | (clear a5;refine Z02 64 64 arrB (by rfl) _ _ (by rfl) gB (by rfl) X.l (by rfl) hX _ rB (by simp) ?_;intro w6 rB6 s6
        have k3:=s3.size
        have k4:=b4.size
        have B5:=Z01 b4 b5 (Nat.le_refl _)
        have I6:=I3.own B5 (Nat.le_trans k4 l5) s6
        have rA6:=(rA3.later B5).step s6 (fun e=>by have:=b2.size;omega)
        have y3:=I6.cs.cell 3 _ rfl)
     | (go_at_call 17;refine(hNw _ I6).mono ?_;rintro e w7 ⟨rfl,k7⟩;clear hNw y3
        have s7:=k7.stp
        obtain⟨T7,I7,f7⟩:=I6.ofV k7 rfl rfl rfl
        have a7:Hid True:=trivial)
     | (clear a7;refine Z03 64 64 arrB (by rfl) (by rfl) ?_;intro gC w8 l8 z8 rC b8;have a8:Hid True:=trivial)
     | (clear a8;refine Z02 64 64 arrB (by rfl) _ _ (by rfl) gC (by rfl) Y.l (by rfl) hY _ rC (by simp) ?_;intro w9 rC9 s9
        have I9:=I7.own b8 l8 s9
        have y7:=I9.cs.cell 7 _ rfl)
     | (go_at_call 51;refine(hRn _ _ I9).mono ?_;rintro e w10 ⟨rfl,k10⟩;clear hRn y7
        have s10:=k10.stp
        obtain⟨K10,I10⟩:=I9.ofR k10
        have a10:Hid True:=trivial)
     | (clear a10;refine Z03 64 64 arrB (by rfl) (by rfl) ?_;intro gD w11 l11 z11 rD b11;have a11:Hid True:=trivial)
     | (clear a11;refine Z02 64 64 arrB (by rfl) _ _ (by rfl) gD (by rfl) Y.l (by rfl) hY _ rD (by simp) ?_;intro w12 rD12 s12))
    have I12:=I10.own b11 l11 s12
    have m2:=b2.size
    have m5:=b5.size
    have m6:=s6.size
    have m7:=s7.size
    have m8:=b8.size
    have m9:=s9.size
    have m10:=s10.size
    have nT:∀ x,wr.heap.size≤x→¬T1 x∧¬K1 x:=fun x hx=>⟨fun e=>by have:=hl0.2.1 x e;omega,fun e=>by have:=hl0.2.2 x (.inl e);omega⟩
    have up:∀ {x:Nat} {l:List UInt8},wr.heap.size≤x→x < w6.heap.size→Row w6 x l→Row w12 x l:=fun hx hx2 r=>(((((r.step s7 (nT _ hx).1).later b8).step s9 (fun e=>by omega)).step s10 (nT _ hx).2).later b11).step s12 (fun e=>by omega)
    have rA12:=up (Nat.le_trans k1 l2) (by omega) rA6
    have rB12:=up (by omega) (by omega) rB6
    have rC12:=((rC9.step s10 (nT _ (by omega)).2).later b11).step s12 (fun e=>by omega)
    obtain⟨s0,t0,hws⟩:=I12.ry.ra.wait
    obtain⟨ok2,hn2'⟩:=hok2.out
    have hn3:V1.c.hold (i:Int)=(V1.look (i:Int)).c:=rfl
    rw [hn3]at hws I12
    rw [hn2'.trans hn0.out]at hws
    obtain⟨wa,wc,hwc⟩:=(hws w12 (Below.refl _ _)).2.2 i hlt
    have hq:=fun x b=>(hws x b).2.1
    have hWt:=fun x (b:Below w12.heap.size w12 x)=>(I12.later b).vo.waits (i:Int) hwi
    have hcs:=fun x (b:Below w12.heap.size w12 x)=>(I12.later b).cs
    have J:Hid (AkI W w12 ⟨g,sY,sP,sG,sX,sE,sQ,A⟩ V (V1.look (i:Int)) T7 K10 t k (i+1)):=⟨I12,ok2,hn2'⟩
    generalize ((V1.look (i:Int)).c.d.wt (i:Int)).length=wl at *
    have e36:=eq36
    have g36:=Zfe
    clear I0 I3 I6 I7 I9 I10 I12 hl0 nT up hws okI
    refine wp_region_held_drew (S:=fun x=>Below w12.heap.size w12 x) (by kernel_rfl) (Below.refl _ _).drew (fun hHeld=>?_)
    refine tm 0 (.agg X.cs.toArray) rfl
     (Z0e 64 64 arrB (by rfl) (.tmp 10) rfl gA (by rfl) X.l hX (fun u hu=>rA12.later hu)) ?_
    try simp only [z]
    refine tm 1 (.agg X.cs.toArray) rfl
     (Z0e 64 64 arrB (by rfl) (.tmp 12) rfl gB (by rfl) X.l hX (fun u hu=>rB12.later hu)) ?_
    try simp only [z]
    refine tl 2 (.bool false) rfl ?_
    try simp only [z]
    refine tl 3 (.bool false) rfl ?_
    try simp only [z]
    refine tm 4 (.agg Y.cs.toArray) rfl
     (Z0e 64 64 arrB (by rfl) (.tmp 14) rfl gC (by rfl) Y.l hY (fun u hu=>rC12.later hu)) ?_
    try simp only [z]
    refine tm 5 (.agg Y.cs.toArray) rfl
     (Z0e 64 64 arrB (by rfl) (.tmp 16) rfl gD (by rfl) Y.l hY (fun u hu=>rD12.later hu)) ?_
    try simp only [z]
    refine tl 6 (.bool false) rfl ?_
    try simp only [z]
    refine tl 7 (.bool false) rfl ?_
    try simp only [z]
    refine tl 8 (.bool false) rfl ?_
    try simp only [z]
    refine tl 9 (.int .i64 eY) rfl ?_
    try simp only [z]
    refine tl 10 (.int .i64 eY) rfl ?_
    try simp only [z]
    refine tl 11 (.bool false) rfl ?_
    try simp only [z]
    refine tl 12 (.bool false) rfl ?_
    try simp only [z]
    refine tl 13 (.bool false) rfl ?_
    try simp only [z]
    refine tl 14 (.pointer (some ⟨g,0,none⟩)) rfl ?_
    try simp only [z]
    refine tl 15 (.pointer (some ⟨g,0,none⟩)) rfl ?_
    try simp only [z]
    refine tl 16 (.pointer (some ⟨g,1,none⟩)) rfl ?_
    try simp only [z]
    refine tl 17 (.pointer (some ⟨A.d,0,none⟩)) rfl ?_ (fun u hu=>by have x1:=(hcs _ hu).cell 1 _ rfl;go_simp)
    try simp only [z]
    refine tl 18 (.int .i64 (i:Int)) rfl ?_
    try simp only [z]
    refine tl 20 (.pointer (some ⟨g,0,none⟩)) rfl ?_
    try simp only [z]
    refine tl 21 (.pointer (some ⟨g,0,none⟩)) rfl ?_
    try simp only [z]
    refine tl 22 (.pointer (some ⟨g,5,none⟩)) rfl ?_
    try simp only [z]
    refine tl 23 (.pointer (some ⟨sE,0,none⟩)) rfl ?_ (fun u hu=>by have x1:=(hcs _ hu).cell 5 _ rfl;go_simp)
    try simp only [z]
    refine tl 24 (.pointer (some ⟨sE,0,none⟩)) rfl ?_
    try simp only [z]
    refine tl 25 (.pointer (some ⟨sE,2,none⟩)) rfl ?_
    try simp only [z]
    refine tl 26 (.slice (some ⟨t0,0,none⟩) n n) rfl ?_ (fun u hu=>by have x1:=hq _ hu;go_simp)
    try simp only [z]
    refine tl 27 (.int .i64 (i:Int)) rfl ?_
    try simp only [z]
    refine tl 28 (.pointer (some ⟨t0,i,none⟩)) rfl ?_
    try simp only [z]
    refine tl 29 (.slice wa wl wc) rfl ?_ (fun u hu=>by have x1:=hwc _ hu;go_simp)
    try simp only [z]
    refine tl 30 (.int .i64 (wl:Int)) rfl ?_
    try simp only [z]
    refine rd 19 rfl (fun K hK=>?_)
    go_simp
    refine(hWt _ hHeld).mono ?_
    rintro e v19 ⟨rfl,rfl⟩
    try go_wp2_with fail
    refine hK.out _ _ (hHeld) (fun hHeld=>?_)
    clear hK K
    try simp only [z]
    refine tl 31 (.bool false) rfl ?_
    try simp only [z]
    refine tl 32 (.bool false) rfl ?_
    try simp only [z]
    refine wpAnyH_done (by kernel_rfl) ?_ _
    have J2:=J.out.wy.later hHeld
    go_wp2_with fail
    go_roundw
    case rel=>exact⟨i+1,V1.look (i:Int),T7,K10,by omega,by go_num,⟨J2,ok2,hn2'⟩⟩
    case measure=>simp [intOf];omega
  · have hi':i=n:=by omega
    subst hi'
    have hW:=fun x (b:Below wr.heap.size wr x)=>I0.later b
    have hcs:=fun x (b:Below wr.heap.size wr x)=>(hW x b).cs
    have hyc:=fun x (b:Below wr.heap.size wr x)=>(hW x b).ry.c
    have hGr:=fun x (b:Below wr.heap.size wr x)=>(hW x b).vo.graph I0.g0
    have hRa:=fun x (b:Below wr.heap.size wr x)=>Zmi (hW x b).ry.gh
    have hRw:=fun x (b:Below wr.heap.size wr x)=>Zdl (hW x b).ry.gh
    have hbl:=fun x (b:Below wr.heap.size wr x)=>(hW x b).bl
    clear I I0 okI hws hW
    go_wp2_with fail
    refine wp_region_held_drew (S:=fun x=>Below wr.heap.size wr x) (by kernel_rfl) (Below.refl _ _).drew (fun hHeld=>?_)
    refine tl 0 (.pointer (some ⟨g,0,none⟩)) rfl ?_
    try simp only [z]
    refine tl 1 (.pointer (some ⟨g,0,none⟩)) rfl ?_
    try simp only [z]
    refine tl 2 (.pointer (some ⟨g,3,none⟩)) rfl ?_
    try simp only [z]
    refine tl 3 (.pointer (some ⟨A.v,0,none⟩)) rfl ?_ (fun u hu=>by have x1:=(hcs _ hu).cell 3 _ rfl;go_simp)
    try simp only [z]
    refine tl 6 (.pointer (some ⟨g,0,none⟩)) rfl ?_
    try simp only [z]
    refine tl 7 (.pointer (some ⟨g,0,none⟩)) rfl ?_
    try simp only [z]
    refine tl 8 (.pointer (some ⟨g,7,none⟩)) rfl ?_
    try simp only [z]
    refine tl 9 (.pointer (some ⟨sY,0,none⟩)) rfl ?_ (fun u hu=>by have x1:=(hcs _ hu).cell 7 _ rfl;go_simp)
    try simp only [z]
    refine tl 10 (.pointer (some ⟨sY,0,none⟩)) rfl ?_
    try simp only [z]
    refine tl 11 (.pointer (some ⟨sY,6,none⟩)) rfl ?_
    try simp only [z]
    refine tl 12 (.pointer (some ⟨sG,0,none⟩)) rfl ?_ (fun u hu=>by have x1:=(hyc _ hu).cell 6 _ rfl;go_simp)
    try simp only [z]
    refine rd 4 rfl (fun K hK=>?_)
    go_simp
    refine(hGr _ hHeld).mono ?_
    rintro e v4 ⟨g4,rfl,x4,c4⟩
    try go_wp2_with fail
    refine hK.out _ _ (Z01 hHeld c4 (Nat.le_refl _)) (fun hHeld=>?_)
    clear hK K
    try simp only [z]
    refine rd 5 rfl (fun K hK=>?_)
    go_simp
    refine(Zlv x4).mono ?_
    rintro e v5 ⟨a5,n5,rfl,c5⟩
    try go_wp2_with fail
    refine hK.out _ _ (Z01 hHeld c5 (Nat.le_refl _)) (fun hHeld=>?_)
    clear hK K
    try simp only [z]
    refine rd 13 rfl (fun K hK=>?_)
    go_simp
    refine(hRa _ hHeld).mono ?_
    rintro e v13 ⟨a13,rfl,c13⟩
    try go_wp2_with fail
    refine hK.out _ _ (Z01 hHeld c13 (Nat.le_refl _)) (fun hHeld=>?_)
    clear hK K
    try simp only [z]
    refine rd 14 rfl (fun K hK=>?_)
    go_simp
    refine(Zdm _ _ _ _ _).mono ?_
    rintro e v14 ⟨rfl,rfl⟩
    try go_wp2_with fail
    refine hK.out _ _ (hHeld) (fun hHeld=>?_)
    clear hK K
    try simp only [z]
    refine tl 15 (.bool true) rfl ?_
    try simp only [z]
    refine tl 16 (.pointer (some ⟨g,0,none⟩)) rfl ?_
    try simp only [z]
    refine tl 17 (.pointer (some ⟨g,0,none⟩)) rfl ?_
    try simp only [z]
    refine tl 18 (.pointer (some ⟨g,3,none⟩)) rfl ?_
    try simp only [z]
    refine tl 19 (.pointer (some ⟨A.v,0,none⟩)) rfl ?_ (fun u hu=>by have x1:=(hcs _ hu).cell 3 _ rfl;go_simp)
    try simp only [z]
    refine tl 22 (.pointer (some ⟨g,0,none⟩)) rfl ?_
    try simp only [z]
    refine tl 23 (.pointer (some ⟨g,0,none⟩)) rfl ?_
    try simp only [z]
    refine tl 24 (.pointer (some ⟨g,7,none⟩)) rfl ?_
    try simp only [z]
    refine tl 25 (.pointer (some ⟨sY,0,none⟩)) rfl ?_ (fun u hu=>by have x1:=(hcs _ hu).cell 7 _ rfl;go_simp)
    try simp only [z]
    refine tl 26 (.pointer (some ⟨sY,0,none⟩)) rfl ?_
    try simp only [z]
    refine tl 27 (.pointer (some ⟨sY,6,none⟩)) rfl ?_
    try simp only [z]
    refine tl 28 (.pointer (some ⟨sG,0,none⟩)) rfl ?_ (fun u hu=>by have x1:=(hyc _ hu).cell 6 _ rfl;go_simp)
    try simp only [z]
    refine rd 20 rfl (fun K hK=>?_)
    go_simp
    refine(hGr _ hHeld).mono ?_
    rintro e v20 ⟨g20,rfl,x20,c20⟩
    try go_wp2_with fail
    refine hK.out _ _ (Z01 hHeld c20 (Nat.le_refl _)) (fun hHeld=>?_)
    clear hK K
    try simp only [z]
    refine rd 21 rfl (fun K hK=>?_)
    go_simp
    refine(Zcp x20).mono ?_
    rintro e v21 ⟨a21,n21,rfl,c21⟩
    try go_wp2_with fail
    refine hK.out _ _ (Z01 hHeld c21 (Nat.le_refl _)) (fun hHeld=>?_)
    clear hK K
    try simp only [z]
    refine rd 29 rfl (fun K hK=>?_)
    go_simp
    refine(hRw _ hHeld).mono ?_
    rintro e v29 ⟨a29,rfl,c29⟩
    try go_wp2_with fail
    refine hK.out _ _ (Z01 hHeld c29 (Nat.le_refl _)) (fun hHeld=>?_)
    clear hK K
    try simp only [z]
    refine rd 30 rfl (fun K hK=>?_)
    go_simp
    refine(Zdm _ _ _ _ _).mono ?_
    rintro e v30 ⟨rfl,rfl⟩
    try go_wp2_with fail
    refine hK.out _ _ (hHeld) (fun hHeld=>?_)
    clear hK K
    try simp only [z]
    refine tl 31 (.bool true) rfl ?_
    try simp only [z]
    refine tl 32 (.bool true) rfl ?_
    try simp only [z]
    refine wpAnyH_done (by kernel_rfl) ?_ _
    go_wp2_with fail
    go_returns
    exact⟨rfl,hbl _ hHeld⟩
set_option maxRecDepth 100000
theorem Zae {cs:List Value} {n:Nat} (hl:cs.length=n) (h:∀ i,i < n→∃ a,cs[i]? =some (.int .u8 a)∧(Lit.int .u8 a).wf=true):∃ l:List UInt8,l.length=n∧Z00 l=cs:=by
 refine⟨cs.map fun v=>match v with | .int _ a=>UInt8.ofNat a.toNat | _=>0,by simp [hl],?_⟩
 apply List.ext_getElem?
 intro i
 by_cases hi:i < n
 · obtain⟨a,e,hw⟩:=h i hi
   have:=bounds_u8 hw
   simp only [List.getElem?_map,e,Option.map_some,Extern.Stop.cell]
   congr 2
   have h1:a.toNat < 256:=by omega
   rw [show(UInt8.ofNat a.toNat).toNat=a.toNat by simp;omega]
   show((a.toNat:Nat):Int)=a
   omega
 · rw [List.getElem?_eq_none (by simp;omega),List.getElem?_eq_none (by omega)]
section
variable {H : Type} {enc : TypeId × Value → H} {w : World} {base : Nat} {spare : Nat → Bool} {held : Bool}
theorem Zbw {T n fuel:Nat} {cs:List Value} {x:DataW H×List MemPlace} (hT:Arr T n) (hn:Tryz.prog.cellsOf T=n) (h:DataW.trod enc Tryz.prog w base spare held fuel T cs=some x):∃ l:List UInt8,l.length=n∧Z00 l=cs:=by
 obtain⟨xs,m,_,_,hl,hx,hi⟩:=DataW.trod_array hT.und h
 have hl':cs.length=n:=hl.trans hn
 have h1:Tryz.prog.cellsOf 5=1:=by kernel_rfl
 refine Zae hl' fun i hi'=>?_
 have hq:=hi i hi'
 rw [h1,Nat.mul_one]at hq
 have hlx:i < xs.length:=by omega
 rw [List.getElem?_eq_getElem hlx]at hq
 obtain⟨a,e,_,hw⟩:=DataW.trod_int (k:= .u8) (by kernel_rfl) hq
 refine⟨a,?_,hw⟩
 have:((cs.drop i).take 1)[0]? =cs[i]?:=by rw [List.getElem?_take,if_pos (by omega),List.getElem?_drop];simp
 rw [← this,e];rfl
theorem Zi5 {fuel:Nat} {cs:List Value} {x:DataW H×List MemPlace} (h:DataW.trod enc Tryz.prog w base spare held fuel 64 cs=some x):∃ b:Blk,b.cs=cs:=by
 obtain⟨l,hl,e⟩:=Zbw arrB (by kernel_rfl) h
 exact⟨⟨l,hl⟩,e⟩
end
end Go.Proofs.YtogdffonjhghcaaGreatDoor
