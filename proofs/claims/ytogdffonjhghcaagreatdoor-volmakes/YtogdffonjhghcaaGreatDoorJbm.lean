/-
  Texts of my own, joined: no statement is proved here.
-/
import Derived.Laws.MakeOwn
import Derived.Deep.DeepCutAuto
import Derived.Deep.CutBlock
import Derived.OwnWalk
import Derived.Maps.AppendAt
import Derived.Test.YtogdffonjhghcaaGreatDoorJal
set_option linter.unusedSimpArgs false
set_option linter.unusedVariables false
namespace Go.Proofs.YtogdffonjhghcaaGreatDoor
open Go.ChangeShapes Go.WideShapes Go.ChangeAt Go.RowKit
structure Rk (w:World) (y q s t:Nat) (v:Nat→Value) (S:DS) (R:Nat→Prop):Prop where
 c0:w.cell? ⟨y,0,none⟩=some (.pointer (some ⟨q,0,none⟩))
 c1:w.cell? ⟨y,1,none⟩=some (.slice (some ⟨s,0,none⟩) S.n S.n)
 c2:w.cell? ⟨y,2,none⟩=some (.slice (some ⟨t,0,none⟩) S.n S.n)
 c3:w.cell? ⟨y,3,none⟩=some (.int .i64 S.wr)
 z3:w.frozen? ⟨y,3,none⟩=false
 st:∀ i:Nat,i < S.n→w.rangeAt s (i * 64) (S.st i).cs
 th:∀ i:Nat,i < S.n→w.there s (i * 64) 64
 wc:∀ i:Nat,i < S.n→w.cell? ⟨t,i,none⟩=some (v i)
 wz:∀ i:Nat,i < S.n→w.frozen? ⟨t,i,none⟩=false
 wv:∀ i:Nat,i < S.n→∃ a c,v i= .slice a (S.wt i).length c∧Bls w a (S.wt i).length c (S.wt i)∧∀ x:Addr,a=some x→R x.block∧x.block≠y∧x.block≠s∧x.block≠t
 ok:S.ok
 ry:R y
 rs:R s
 rt:R t
 ys:y≠s
 yt:y≠t
 st':s≠t
 lt:∀ x,R x→x < w.heap.size
 wn:∀ i:Nat,i < S.n→∀ L c,v i= .slice none L c→c=0
theorem Rk.step {B R:Nat→Prop} {w w':World} {y q s t:Nat} {v:Nat→Value} {S:DS} (h:Rk w y q s t v S R) (k:Stp B w w') (hB:∀ x,R x→¬B x):Rk w' y q s t v S R:=by
 have by':=hB y h.ry;have bs:=hB s h.rs;have bt:=hB t h.rt
 refine ⟨k.cell h.c0 by',k.cell h.c1 by',k.cell h.c2 by',k.cell h.c3 by',by rw [k.frozen (p:=⟨y,3,none⟩) (h.lt y h.ry) by'];exact h.z3,fun i hi=>k.range (h.st i hi) bs,fun i hi=>k.there (h.th i hi) bs,
  fun i hi=>k.cell (h.wc i hi) bt,fun i hi=>by rw [k.frozen (p:=⟨t,i,none⟩) (h.lt t h.rt) bt];exact h.wz i hi,fun i hi=>?_,h.ok,h.ry,h.rs,h.rt,h.ys,h.yt,h.st',fun x hx=>Nat.lt_of_lt_of_le (h.lt x hx) k.size,h.wn⟩
 obtain⟨a,c,e,hb,hx⟩:=h.wv i hi
 exact⟨a,c,e,hb.step k (fun x e=>hB _ (hx x e).1),hx⟩
def RD (w:World) (y q:Nat) (S:DS) (R:Nat→Prop):Prop:=∃ s t v,Rk w y q s t v S R
theorem RD.step {B R:Nat→Prop} {w w':World} {y q:Nat} {S:DS} (h:RD w y q S R) (k:Stp B w w') (hB:∀ x,R x→¬B x):RD w' y q S R:=by
 obtain⟨s,t,v,h⟩:=h;exact⟨s,t,v,h.step k hB⟩
theorem RD.lt {R:Nat→Prop} {w:World} {y q:Nat} {S:DS} (h:RD w y q S R):∀ x,R x→x < w.heap.size:=by obtain⟨s,t,v,h⟩:=h;exact h.lt
theorem RD.ok {R:Nat→Prop} {w:World} {y q:Nat} {S:DS} (h:RD w y q S R):S.ok:=by obtain⟨s,t,v,h⟩:=h;exact h.ok
theorem Zj2 {R:Nat→Prop} {w:World} {y q:Nat} {S:DS} (h:RD w y q S R) (i:Int):
 Calls Tryz.prog 119 #[.pointer (some ⟨y,0,none⟩), .int .i64 i] w fun e w'=>e= .returned (.bool (decide (S.inn i)))∧w=w':=by
 obtain⟨s,t,v,h⟩:=h
 have c1:=h.c1
 have n2:=h.ok.n2
 by_cases h0:0≤i
 · by_cases h1:i < S.n
   · have e:decide (S.inn i)=true:=by simp [DS.inn,h0,h1]
     rw [e];clear e
     go_enter Tryz.func119,Tryz.ntmps119
     go_wp2
     go_returns
     exact⟨rfl,rfl⟩
   · have e:decide (S.inn i)=false:=decide_eq_false (by unfold DS.inn;omega)
     rw [e];clear e
     have h2:¬(i < (S.n:Int)):=h1
     go_enter Tryz.func119,Tryz.ntmps119
     go_wp2
     go_returns
     exact⟨rfl,rfl⟩
 · have e:decide (S.inn i)=false:=decide_eq_false (by unfold DS.inn;omega)
   rw [e];clear e
   go_enter Tryz.func119,Tryz.ntmps119
   go_wp2
   go_returns
   exact⟨rfl,rfl⟩
set_option maxRecDepth 100000 in
set_option maxHeartbeats 1000000 in
theorem Z7f {R:Nat→Prop} {w:World} {y q:Nat} {S:DS} (h:RD w y q S R) (i:Int) (hwf:(Lit.int .i64 i).wf=true):
 Calls Tryz.prog 55 #[.pointer (some ⟨y,0,none⟩), .int .i64 i] w fun e w'=>e= .returned (.tuple #[.agg (S.shown i).cs.toArray, .int .i64 (Z0l S i)])∧Below w.heap.size w w':=by
 have sA:Stp (fun _=>False) w (w.alloc (.cells Blk.zero.cs.toArray 64)):=Stp.of_alloc _ _ _
 have h':=h.step sA (fun _ _=>id)
 have his:=Zj2 h' i
 obtain⟨s,t,v,hk⟩:=h
 have hk':=hk.step sA (fun _ _=>id)
 have n2:=hk.ok.n2
 have bz:=Ziq Blk.zero
 by_cases hi:S.inn i
 · have e1:Z0l S i=0:=by unfold Z0l;rw [if_pos hi]
   have e2:decide (S.inn i)=true:=by simp [hi]
   rw [e2]at his
   rw [e1]
   obtain⟨m,rfl⟩:=Int.eq_ofNat_of_zero_le hi.1
   have hm:m < S.n:=by have:=hi.2;omega
   have c2:=hk'.c2
   have wc:=hk'.wc m hm
   obtain⟨a,c,ev,hB,_⟩:=hk'.wv m hm
   rw [ev]at wc
   have i1:(0:Int)≤(m:Int):=by omega
   have i2:(m:Int) < (S.n:Int):=by omega
   have c1:=hk'.c1
   have hst:=hk'.st m hm
   clear e1 e2 h' hi
   have hcap:=hB.cap
   have hle:=hB.le
   unfold maxLen at hcap
   by_cases hn:0 < (S.wt m).length
   · obtain⟨b,o,rfl,hc⟩:=hB.cell hn
     have hr:=hc ((S.wt m).length - 1) (by omega)
     have e3:S.shown m=(S.wt m).getD ((S.wt m).length - 1) Blk.zero:=by unfold DS.shown Z1w;rw [Z6r _ _ hn]
     rw [e3];clear e3 hc hB ev
     generalize (S.wt m).getD ((S.wt m).length - 1) Blk.zero=X at *
     generalize (S.wt m).length=L at *
     have q1:IntKind.i64.wrap ((L:Int) - 1)=((L - 1:Nat):Int):=by rw [IntKind.wrap_i64];omega
     have q2:((L - 1:Nat):Int) < (L:Int):=by omega
     have q3:(0:Int)≤((L - 1:Nat):Int):=by omega
     go_enter Tryz.func55,Tryz.ntmps55
     go_wp2_with (first
      | (refine Z2f (by rfl) (by rfl) ?_)
      | (go_at_call 119;refine his.mono ?_;rintro e u ⟨rfl,rfl⟩)
      | (refine Z2o (by rfl) _ (by rfl) b (o+(L - 1) * 64) (by rfl) X hr ?_)
      | (refine Z23 (by rfl) _ _ (by rfl) _ _ (by rfl) X (by rfl) (Z21 w) ?_;rw [Z1k]))
     refine bodyPost_ret (ret2 Tryz.results55 rfl rfl (Z0v w _ _)) rfl ⟨rfl,by go_grown⟩
   · have e3:S.shown m=S.st m:=Zdq (List.eq_nil_of_length_eq_zero (by omega))
     rw [e3];clear e3
     have hn0:(S.wt m).length=0:=by omega
     rw [hn0]at wc
     clear hB ev hn hcap hle hn0 hk hk' n2 bz
     go_enter Tryz.func55,Tryz.ntmps55
     go_wp2_with (first
      | (refine Z2f (by rfl) (by rfl) ?_)
      | (go_at_call 119;refine his.mono ?_;rintro e u ⟨rfl,rfl⟩)
      | (refine Z2o (by rfl) _ (by rfl) s (m * 64) (by rfl) (S.st m) hst ?_)
      | (refine Z23 (by rfl) _ _ (by rfl) _ _ (by rfl) (S.st m) (by rfl) (Z21 w) ?_;rw [Z1k]))
     refine bodyPost_ret (ret2 Tryz.results55 rfl rfl (Z0v w _ _)) rfl ⟨rfl,by go_grown⟩
 · have e1:Z0l S i=2:=by unfold Z0l;rw [if_neg hi]
   have e2:decide (S.inn i)=false:=by simp [hi]
   rw [e2]at his
   rw [e1,Zbo hk.ok hi]
   clear e1 e2
   go_enter Tryz.func55,Tryz.ntmps55
   go_wp2_with (first
    | (refine Z2f (by rfl) (by rfl) ?_)
    | (go_at_call 119;refine his.mono ?_;rintro e u ⟨rfl,rfl⟩)
    | (refine Z3q (by rfl) (by rfl) ?_)
    | (refine Z23 (by rfl) _ _ (by rfl) _ _ (by rfl) Blk.zero (by rfl) (Z21 w) ?_;rw [Z1k]))
   refine bodyPost_ret (ret2 Tryz.results55 rfl rfl (Z0v w _ _)) rfl ⟨rfl,by go_grown⟩
def DS.setSt (S:DS) (i:Int) (b:Blk):DS:= { S with st:=fun k=>if k=i then b else S.st k}
def DS.clr (S:DS) (i:Int):DS:= { S with wt:=fun k=>if k=i then []else S.wt k}
theorem Zhf (S:DS) (i:Int) (b:Blk):S.settle i b=(S.setSt i b).clr i:=rfl
theorem Rk.setSt {R:Nat→Prop} {w:World} {y q s t:Nat} {v:Nat→Value} {S:DS} (h:Rk w y q s t v S R) {i:Nat} (hi:i < S.n) (b:Blk):Rk (w.setCells s (i * 64) b.cs) y q s t v (S.setSt i b) R:=by
 have k:Stp (fun x=>x=s) w (w.setCells s (i * 64) b.cs):=Stp.of_setCells w s (i * 64) b.cs (.inl rfl)
 refine ⟨k.cell h.c0 h.ys,k.cell h.c1 h.ys,k.cell h.c2 h.ys,k.cell h.c3 h.ys,by rw [k.frozen (p:=⟨y,3,none⟩) (h.lt y h.ry) h.ys];exact h.z3,fun j hj=>?_,fun j hj=>World.there_setCells (h.th j hj) _ _ _,
  fun j hj=>k.cell (h.wc j hj) (fun e=>h.st' e.symm),fun j hj=>by rw [k.frozen (p:=⟨t,j,none⟩) (h.lt t h.rt) (fun e=>h.st' e.symm)];exact h.wz j hj,fun j hj=>?_,?_,h.ry,h.rs,h.rt,h.ys,h.yt,h.st',fun x hx=>Nat.lt_of_lt_of_le (h.lt x hx) k.size,h.wn⟩
 · show(w.setCells s (i * 64) b.cs).rangeAt s (j * 64) ((if (j:Int)=(i:Int)then b else S.st j)).cs
   by_cases e:j=i
   · subst e;rw [if_pos rfl]
     exact World.rangeAt_setCells_same w s (j * 64) b.cs (by rw [b.cs_len];exact h.th j hj)
   · rw [if_neg (by omega)]
     exact World.rangeAt_setCells_apart (h.st j hj) s (i * 64) b.cs (.inr (by rw [b.cs_len,(S.st j).cs_len];omega))
 · obtain⟨a,c,e,hb,hx⟩:=h.wv j hj
   exact⟨a,c,e,hb.step k (fun x ex=>(hx x ex).2.2.1),hx⟩
 · refine⟨h.ok.n1,h.ok.n2,fun k hk=>?_,h.ok.wt⟩
   show(if k=(i:Int)then b else S.st k)=Blk.zero
   rw [if_neg (fun e=>hk (by subst e;exact⟨by omega,by show(i:Int) < S.n;omega⟩))]
   exact h.ok.st k hk
theorem Rk.clr {R:Nat→Prop} {w:World} {y q s t:Nat} {v:Nat→Value} {S:DS} (h:Rk w y q s t v S R) {i:Nat} (hi:i < S.n):Rk (w.setCell ⟨t,i,none⟩ (.slice none 0 0)) y q s t (fun j=>if j=i then .slice none 0 0 else v j) (S.clr i) R:=by
 have k:Stp (fun x=>x=t) w (w.setCell ⟨t,i,none⟩ (.slice none 0 0)):=(Stp.refl (fun x=>x=t) w).setCell (p:=⟨t,i,none⟩) (.inl rfl) _
 refine ⟨k.cell h.c0 h.yt,k.cell h.c1 h.yt,k.cell h.c2 h.yt,k.cell h.c3 h.yt,by rw [k.frozen (p:=⟨y,3,none⟩) (h.lt y h.ry) h.yt];exact h.z3,fun j hj=>k.range (h.st j hj) h.st',fun j hj=>k.there (h.th j hj) h.st',
  fun j hj=>?_,fun j hj=>by simpa using h.wz j hj,fun j hj=>?_,?_,h.ry,h.rs,h.rt,h.ys,h.yt,h.st',fun x hx=>Nat.lt_of_lt_of_le (h.lt x hx) k.size,fun j hj L c e=>?_⟩
 · by_cases e:j=i
   · subst e;simp only [if_true];exact World.cell?_setCell_same _ _ _ (h.wc j hj)
   · simp only [if_neg e];rw [World.cell?_setCell_other _ _ _ _ (fun e'=>e (by injection e' with _ e';exact e'.symm))];exact h.wc j hj
 · by_cases e:j=i
   · subst e
     refine⟨none,0,?_,?_,fun x ex=>by cases ex⟩
     · show(if j=j then Value.slice none 0 0 else v j)= .slice none (if (j:Int)=(j:Int)then []else S.wt j).length 0
       rw [if_pos rfl,if_pos rfl];rfl
     · show Bls _ none (if (j:Int)=(j:Int)then []else S.wt j).length 0 (if (j:Int)=(j:Int)then []else S.wt j)
       rw [if_pos rfl];exact Bls.nilSlice _
   · obtain⟨a,c,ev,hb,hx⟩:=h.wv j hj
     have e':¬(j:Int)=(i:Int):=by omega
     refine⟨a,c,?_,?_,hx⟩
     · show(if j=i then Value.slice none 0 0 else v j)= .slice a (if (j:Int)=(i:Int)then []else S.wt j).length c
       rw [if_neg e,if_neg e'];exact ev
     · show Bls _ a (if (j:Int)=(i:Int)then []else S.wt j).length c (if (j:Int)=(i:Int)then []else S.wt j)
       rw [if_neg e'];exact hb.step k (fun x ex=>(hx x ex).2.2.2)
 · refine⟨h.ok.n1,h.ok.n2,h.ok.st,fun k hk=>?_⟩
   show(if k=(i:Int)then []else S.wt k)= []
   split
   · rfl
   · exact h.ok.wt k hk
 · by_cases e':j=i
   · rw [if_pos e']at e;injection e with _ _ e3;exact e3.symm
   · rw [if_neg e']at e;exact h.wn j hj L c e
theorem Rk.counted {R:Nat→Prop} {w:World} {y q s t:Nat} {v:Nat→Value} {S:DS} (h:Rk w y q s t v S R):Rk (w.setCell ⟨y,3,none⟩ (.int .i64 (wrap64 (S.wr+1)))) y q s t v S.count R:=by
 have k:Stp (fun x=>x=y) w (w.setCell ⟨y,3,none⟩ (.int .i64 (wrap64 (S.wr+1)))):=(Stp.refl (fun x=>x=y) w).setCell (p:=⟨y,3,none⟩) (.inl rfl) _
 refine ⟨?_,?_,?_,World.cell?_setCell_same _ _ _ h.c3,by simpa using h.z3,fun j hj=>k.range (h.st j hj) (fun e=>h.ys e.symm),fun j hj=>k.there (h.th j hj) (fun e=>h.ys e.symm),
  fun j hj=>k.cell (h.wc j hj) (fun e=>h.yt e.symm),fun j hj=>by rw [k.frozen (p:=⟨t,j,none⟩) (h.lt t h.rt) (fun e=>h.yt e.symm)];exact h.wz j hj,fun j hj=>?_,⟨h.ok.n1,h.ok.n2,h.ok.st,h.ok.wt⟩,h.ry,h.rs,h.rt,h.ys,h.yt,h.st',fun x hx=>Nat.lt_of_lt_of_le (h.lt x hx) k.size,h.wn⟩
 · rw [World.cell?_setCell_other _ _ _ _ (by simp)];exact h.c0
 · rw [World.cell?_setCell_other _ _ _ _ (by simp)];exact h.c1
 · rw [World.cell?_setCell_other _ _ _ _ (by simp)];exact h.c2
 · obtain⟨a,c,ev,hb,hx⟩:=h.wv j hj
   exact⟨a,c,ev,hb.step k (fun x ex=>(hx x ex).2.1),hx⟩
theorem Rw.stp {F:Nat→Prop} {w w':World} {g:Nat} {p:RS} (h:Rw w g p) (k:Stp F w w') (hg:¬F g):Rw w' g p:=
 ⟨k.cell h.c0 hg,k.cell h.c1 hg,k.cell h.c2 hg,by rw [k.frozen (p:=⟨g,0,none⟩) h.lt hg];exact h.f0,by rw [k.frozen (p:=⟨g,1,none⟩) h.lt hg];exact h.f1,by rw [k.frozen (p:=⟨g,2,none⟩) h.lt hg];exact h.f2⟩
def rRes (S:DS) (p:RS) (i:Int):Int:=if S.inn i then p.useErr else 2
def rUse (S:DS) (p:RS) (i:Int):RS:=if S.inn i then p.use else p
def lftD (k:Nat):Int→Bool:=fun j=> !(decide (0≤j∧j < k))
theorem Zbe (S:DS) (h:Int→Blk):S.part h (lftD 0)=S:=by
 cases S with
 | mk n st wt wr=>
   simp only [DS.part,DS.mk.injEq,true_and,and_true]
   refine⟨funext fun j=>?_,funext fun j=>?_⟩<;>
   · have:lftD 0 j=true:=by unfold lftD;simp;omega
     rw [if_pos this]
theorem Zbd (S:DS) (h:Int→Blk) (k:Nat):(((S.part h (lftD k)).setSt k (h k)).clr k)=S.part h (lftD (k+1)):=by
 have e1:∀ j:Int,j≠k→lftD (k+1) j=lftD k j:=fun j hj=>by
  unfold lftD
  congr 1
  rw [decide_eq_decide];push_cast;constructor<;>rintro ⟨a,b⟩<;>exact⟨a,by omega⟩
 have e2:lftD (k+1) k=false:=by unfold lftD;simp;omega
 unfold DS.clr DS.setSt DS.part
 simp only [DS.mk.injEq,true_and,and_true]
 refine⟨funext fun j=>?_,funext fun j=>?_⟩
 · by_cases e:j=k
   · subst e;rw [if_pos rfl,if_neg (by rw [e2];simp)]
   · rw [if_neg e,e1 j e]
 · by_cases e:j=k
   · subst e;rw [if_pos rfl,if_neg (by rw [e2];simp)]
   · rw [if_neg e,e1 j e]
theorem Zd6 {S:DS} (ok:S.ok) (h:Int→Blk) (ho:∀ j,¬S.inn j→h j=Blk.zero):S.part h (lftD S.n)= { S with st:=h,wt:=fun _=> []} :=by
 unfold DS.part
 simp only [DS.mk.injEq,true_and,and_true]
 refine⟨funext fun j=>?_,funext fun j=>?_⟩
 · by_cases e:S.inn j
   · rw [if_neg (by unfold lftD;unfold DS.inn at e;simp;omega)]
   · rw [if_pos (by unfold lftD;unfold DS.inn at e;simp;omega),ok.st j e,ho j e]
 · by_cases e:S.inn j
   · rw [if_neg (by unfold lftD;unfold DS.inn at e;simp;omega)]
   · rw [if_pos (by unfold lftD;unfold DS.inn at e;simp;omega),ok.wt j e]
def stOf (l:List Blk) (j:Int):Blk:=if 0≤j then l.getD j.toNat Blk.zero else Blk.zero
theorem Zdr (l:List Blk) (k:Nat):stOf l k=l.getD k Blk.zero:=by unfold stOf;rw [if_pos (by omega),Int.toNat_natCast]
def DS.load (S:DS) (l:List Blk):DS:=if l.length=S.n then { S with st:=stOf l,wt:=fun _=> []} else S
def Z4j (S:DS) (l:List Blk):Int:=if l.length=S.n then 0 else 2
theorem Zds {S:DS} {l:List Blk} (h:l.length=S.n) (j:Int) (hj:¬S.inn j):stOf l j=Blk.zero:=by
 unfold stOf DS.inn at *
 split
 · rw [List.getD_eq_getElem?_getD,List.getElem?_eq_none (by omega)];rfl
 · rfl
set_option maxRecDepth 100000 in
set_option maxHeartbeats 1000000 in
theorem Z7c {R:Nat→Prop} {w:World} {y q:Nat} {S:DS} (h:RD w y q S R) {a:Option Addr} {n c:Nat} {l:List Blk} (hl:Bls w a n c l) (hlR:∀ x:Addr,0 < n→a=some x→¬R x.block):
 Calls Tryz.prog 40 #[.pointer (some ⟨y,0,none⟩), .slice a n c] w fun e w'=>e= .returned (.int .i64 (Z4j S l))∧RD w' y q (S.load l) R∧Stp R w w':=by
 have hok:=h.ok
 obtain⟨s,t,v,hk⟩:=h
 have c1:=hk.c1
 have n2:=hok.n2
 have hlen:=hl.len
 unfold DS.load Z4j
 by_cases he:l.length=S.n
 · rw [if_pos he,if_pos he]
   have hn:n=S.n:=by omega
   subst hn
   have hh:¬(S.n:Int)≠(S.n:Int):=by simp
   have start:Rk w y q s t v (S.part (stOf l) (lftD 0)) R:=by rw [Zbe];exact hk
   go_enter Tryz.func40,Tryz.ntmps40
   go_wp2_with fail
   clear hk
   go_loopw [5] (fun i wr=>∃ (k:Nat) (v:Nat→Value),k≤S.n∧i= .int .i64 k∧Rk wr y q s t v (S.part (stOf l) (lftD k)) R∧Stp R w wr) (fun i _=>S.n - (intOf i).toNat)
   case atStart=>exact⟨0,v,Nat.zero_le _,rfl,start,Stp.refl _ _⟩
   case round=>
    clear start
    obtain⟨k,v',hkn,rfl,hk,kw⟩:=hrel
    by_cases hlt:k < S.n
    · have i1:(0:Int)≤(k:Int):=by omega
      have i2:(k:Int) < (S.n:Int):=by omega
      have hkk:k < (S.part (stOf l) (lftD k)).n:=hlt
      obtain⟨b,o,rfl,hc⟩:=hl.cell (by omega)
      have hbR:¬R b:=hlR ⟨b,o,none⟩ (by omega) rfl
      have hr:wr.rangeAt b (o+k * 64) (l.getD k Blk.zero).cs:=kw.range (hc k hlt) hbR
      have hX:Hid (stOf l k=l.getD k Blk.zero):=Zdr l k
      clear hc
      obtain⟨X,hXe⟩:∃ X,l.getD k Blk.zero=X:=⟨_,rfl⟩
      rw [hXe]at hr hX
      clear hXe
      have one:=X.cs_one
      have len:=X.cs_len
      have s36:=Z4b X
      have u36':=u36
      have d1:=hk.step (Stp.refl (fun _=>False) wr).drew (fun _ _=>id)
      have hr1:=(Stp.refl (fun _=>False) wr).drew.range hr id
      have t1:=d1.th k hkk
      have d2:=d1.setSt hkk X
      have wc2:=d2.wc k hkk
      have wz2:=d2.wz k hkk
      have d3:=d2.clr hkk
      have hr2:=(Stp.of_setCells wr.drew s (k * 64) X.cs (F:=R) (.inl d1.rs)).range hr1 hbR
      have hr3:=((Stp.refl R (wr.drew.setCells s (k * 64) X.cs)).setCell (p:=⟨t,k,none⟩) (.inl d1.rt) (.slice none 0 0)).range hr2 hbR
      have kR:Stp R wr ((wr.drew.setCells s (k * 64) X.cs).setCell ⟨t,k,none⟩ (.slice none 0 0)):=((Stp.refl R wr).drew.trans (Stp.of_setCells wr.drew s (k * 64) X.cs (.inl d1.rs))).setCell (p:=⟨t,k,none⟩) (.inl d1.rt) _
      have kS:=kw.trans kR
      go_wp2_with fail
      go_region_held3 (fun u=>u.cell? ⟨y,1,none⟩=some (.slice (some ⟨s,0,none⟩) S.n S.n)∧u.cell? ⟨y,2,none⟩=some (.slice (some ⟨t,0,none⟩) S.n S.n)∧u.rangeAt b (o+k * 64) X.cs)
       (first | exact⟨d1.c1,d1.c2,hr1⟩ | exact⟨d2.c1,d2.c2,hr2⟩ | exact⟨d3.c1,d3.c2,hr3⟩) (fail)
      rw [← hX.out,Zbd S (stOf l) k,hX.out]at d3
      clear hr hr1 hr2 hr3 t1 d1 d2 wc2 wz2 kR kw hk
      go_wp2_with fail
      go_roundw
      case rel=>exact⟨k+1,_,by omega,by go_num,d3,kS⟩
      case measure=>simp [intOf];omega
    · obtain rfl:k=S.n:=by omega
      rw [Zd6 hok (stOf l) (fun j hj=>Zds he j hj)]at hk
      go_wp2_with fail
      go_returns
      exact⟨rfl,⟨s,t,v',hk⟩,kw⟩
 · rw [if_neg he,if_neg he]
   have hn:¬(n:Int)=(S.n:Int):=by omega
   go_enter Tryz.func40,Tryz.ntmps40
   go_wp2_with fail
   go_returns
   exact⟨rfl,⟨s,t,v,hk⟩,Stp.refl _ _⟩
def Z1n (n:Nat):Obj:= .cells (madeCells Blk.zero.cs.toArray (n * 64)) 64
def zSls (n:Nat):Obj:= .cells (madeCells #[.slice none 0 0] n) 22
theorem Zqu:(Tryz.prog.info? 22).map (fun i=>(i.zero,i.size,i.bytes))=some (some (.slice none 0 0),1,24):=by kernel_rfl
theorem Zj6 (n:Nat) (h:n≤100000) (u:World):(Instr.makeSlice 22 (.int .i64 n) (.int .i64 n)).run Tryz.prog u= .ok (.slice (some ⟨u.heap.size,0,none⟩) n n) (u.alloc (Z1n n)):=by
 obtain⟨i,hi,hz,hs,hb⟩:=info_parts Z47
 have:=run_make (P:=Tryz.prog) u 22 64 i _ u41 hi hz .i64 .i64 n n (by omega) (Int.le_refl _) (by rw [hb];omega) (by omega)
 simp only [Int.toNat_natCast,hs]at this
 exact this
theorem Zm2 (n:Nat) (h:n≤100000) (u:World):(Instr.makeSlice 60 (.int .i64 n) (.int .i64 n)).run Tryz.prog u= .ok (.slice (some ⟨u.heap.size,0,none⟩) n n) (u.alloc (zSls n)):=by
 obtain⟨i,hi,hz,hs,hb⟩:=info_parts Zqu
 have:=run_make (P:=Tryz.prog) u 60 22 i _ (by kernel_rfl) hi hz .i64 .i64 n n (by omega) (Int.le_refl _) (by rw [hb];omega) (by omega)
 simp only [Int.toNat_natCast,hs,Nat.mul_one]at this
 exact this
theorem zcs (j:Nat) (h:j < 64):Blk.zero.cs[j]? =some (.int .u8 0):=by
 have e:Blk.zero.cs=List.replicate 64 (.int .u8 0):=rfl
 rw [e,List.getElem?_replicate,if_pos h]
theorem Za2 (u:World) (n i j:Nat) (hi:i < n) (hj:j < 64):(u.alloc (Z1n n)).cell? ⟨u.heap.size,i * 64+j,none⟩=some (.int .u8 0):=by
 unfold Z1n
 rw [cell_of_row _ _ _ _ _ (0,0) (heap_alloc_new u _)]
 unfold madeCells
 have h1:i * 64+j < n * 64:=by have:(i+1) * 64≤n * 64:=Nat.mul_le_mul_right _ hi;omega
 rw [Array.getElem?_map,Array.getElem?_range]
 rw [if_pos h1]
 simp only [Option.map_some,List.size_toArray,Blk.cs_len]
 have h2:(i * 64+j) % 64=j:=by omega
 rw [h2]
 have h3:=zcs j hj
 have h4:Blk.zero.cs.toArray[j]? =some (.int .u8 0):=by simpa using h3
 rw [getElem!_def,h4]
theorem Zew (u:World) (n i:Nat) (hi:i < n):(u.alloc (Z1n n)).rangeAt u.heap.size (i * 64) Blk.zero.cs:=fun j v hv=>by
 have hj:j < 64:=by have:=(List.getElem?_eq_some_iff.1 hv).1;rwa [Blk.cs_len]at this
 rw [zcs j hj]at hv;cases hv
 exact Za2 u n i j hi hj
theorem Zex (u:World) (n i:Nat) (hi:i < n):(u.alloc (Z1n n)).there u.heap.size (i * 64) 64:=fun j hj=>⟨by rw [Za2 u n i j hi hj];rfl,by unfold Z1n;simp [go_sem]⟩
theorem Zkv (u:World) (n i:Nat) (hi:i < n):(u.alloc (zSls n)).cell? ⟨u.heap.size,i,none⟩=some (.slice none 0 0):=by
 unfold zSls
 rw [cell_of_row _ _ _ _ _ (0,0) (heap_alloc_new u _)]
 unfold madeCells
 rw [Array.getElem?_map,Array.getElem?_range,if_pos hi]
 simp [Nat.mod_one]
theorem Zey (u:World) (n i:Nat):(u.alloc (zSls n)).frozen? ⟨u.heap.size,i,none⟩=false:=by unfold zSls;simp [go_sem]
theorem Zjn {w u1 u2 u:World} {y q s t n:Nat} (h1:1≤n) (h2:n≤2048) (ks:Stp (fun _=>False) (u1.alloc (Z1n n)) u) (kt:Stp (fun _=>False) (u2.alloc (zSls n)) u) (es:u1.heap.size=s) (et:u2.heap.size=t) (hy:y=u.heap.size) (hst:s≠t) (hsw:w.heap.size≤s) (htw:w.heap.size≤t) (huw:w.heap.size≤u.heap.size):
 Rk (u.alloc (.cells #[.pointer (some ⟨q,0,none⟩), .slice (some ⟨s,0,none⟩) n n, .slice (some ⟨t,0,none⟩) n n, .int .i64 0] 62)) y q s t (fun _=> .slice none 0 0) (DS.new n) (fun x=>w.heap.size≤x∧x≤u.heap.size):=by
 subst es;subst et;subst hy
 have ls:u1.heap.size < u.heap.size:=by have:=ks.size;simp at this;omega
 have lt:u2.heap.size < u.heap.size:=by have:=kt.size;simp at this;omega
 have kA:Stp (fun _=>False) u (u.alloc (.cells #[.pointer (some ⟨q,0,none⟩), .slice (some ⟨u1.heap.size,0,none⟩) n n, .slice (some ⟨u2.heap.size,0,none⟩) n n, .int .i64 0] 62)):=Stp.of_alloc _ _ _
 refine ⟨by simp [go_sem],by simp [go_sem,DS.new],by simp [go_sem,DS.new],by simp [go_sem,DS.new],by simp [go_sem],fun i hi=>kA.range (ks.range (Zew u1 n i hi) id) id,fun i hi=>kA.there (ks.there (Zex u1 n i hi) id) id,
  fun i hi=>kA.cell (kt.cell (Zkv u2 n i hi) id) id,fun i hi=>?_,fun i hi=>⟨none,0,rfl,Bls.nilSlice _,fun x e=>by cases e⟩,⟨h1,h2,fun _ _=>rfl,fun _ _=>rfl⟩,⟨huw,Nat.le_refl _⟩,⟨hsw,by omega⟩,⟨htw,by omega⟩,by omega,by omega,hst,fun x hx=>by simp;omega,fun i hi L c e=>by injection e with _ _ e3;exact e3.symm⟩
 rw [kA.frozen (p:=⟨u2.heap.size,i,none⟩) lt id,kt.frozen (p:=⟨u2.heap.size,i,none⟩) (by simp) id]
 exact Zey u2 n i
set_option maxRecDepth 100000 in
theorem Zjq (n q:Nat) (w:World) (h1:1≤n) (h2:n≤2048):
 Calls Tryz.prog 38 #[.int .i64 n, .pointer (some ⟨q,0,none⟩)] w fun e w'=>∃ y R,e= .returned (.tuple #[.pointer (some ⟨y,0,none⟩), .int .i64 0])∧Below w.heap.size w w'∧RD w' y q (DS.new n) R∧(∀ x,R x→w.heap.size≤x):=by
 have m1:=Zj6 n (by omega)
 have m2:=Zm2 n (by omega)
 have h1':¬(n:Int) < 1:=by omega
 have h2':(n:Int)≤2048:=by omega
 go_enter Tryz.func38,Tryz.ntmps38
 go_wp2_with fail
 go_region_held3 (fun _=>True) (trivial) (fail)
 · go_wp2_with fail
   go_ret2
   have k:=Zjn (w:=w) (u1:=w) (u2:=w.alloc (Z1n n)) (u:=(w.alloc (Z1n n)).alloc (zSls n)) (q:=q) h1 h2 (Stp.of_alloc _ _ _) (Stp.refl _ _) rfl rfl rfl (by simp) (Nat.le_refl _) (by simp) (by simp;omega)
   refine⟨w.heap.size+1+1,fun x=>w.heap.size≤x∧x≤((w.alloc (Z1n n)).alloc (zSls n)).heap.size,rfl,by go_grown,⟨w.heap.size,w.heap.size+1,fun _=> .slice none 0 0,?_⟩,fun x hx=>hx.1⟩
   have k':=k.step (Stp.refl (fun _=>False) _).drew (fun _ _=>id)
   simpa using k'
 · go_wp2_with fail
   go_ret2
   have k:=Zjn (w:=w) (u1:=w.alloc (zSls n)) (u2:=w) (u:=(w.alloc (zSls n)).alloc (Z1n n)) (q:=q) h1 h2 (Stp.refl _ _) (Stp.of_alloc _ _ _) rfl rfl rfl (by simp) (by simp) (Nat.le_refl _) (by simp;omega)
   refine⟨w.heap.size+1+1,fun x=>w.heap.size≤x∧x≤((w.alloc (zSls n)).alloc (Z1n n)).heap.size,rfl,by go_grown,⟨w.heap.size+1,w.heap.size,fun _=> .slice none 0 0,?_⟩,fun x hx=>hx.1⟩
   have k':=k.step (Stp.refl (fun _=>False) _).drew (fun _ _=>id)
   simpa using k'
theorem Bls.news {W:World} {x:Addr} {L c:Nat} {l:List Blk} (hB:Bls W (some x) L c l) (j:Nat) (u:Value) (hj:(flat l)[j]? =some u):W.cell? (x.add j)=some u:=by
 have hlt:j < l.length * 64:=by have:=(List.getElem?_eq_some_iff.1 hj).1;rwa [Z6a]at this
 have hlen:=hB.len
 obtain⟨b,o,e,hc⟩:=hB.cell (by omega)
 injection e with e;subst e
 have hi:j / 64 < l.length:=by omega
 have hr:=hc (j / 64) (by omega) (j % 64) u (by rw [← Z8d l (j / 64) (j % 64) hi (Nat.mod_lt _ (by omega)),show j / 64 * 64+j % 64=j by omega];exact hj)
 rw [Addr.add_lit]
 rw [show o+j=o+j / 64 * 64+j % 64 by omega];exact hr
theorem Za5 {W:World} {g L c:Nat} {a:Option Addr} {l:List Blk} (ho:W.ownsRow 0 64 64 (.slice (some ⟨g,0,none⟩) 0 0) 0 []) (hB:Bls W a L c l) (hL:L≤100000) (ha:a=none→c=0):
 ∃ v' W',(Builtin.append_ #[22,22] 22 #[.slice (some ⟨g,0,none⟩) 0 0, .slice a L c]).run Tryz.prog W= .ok v' W'∧W'.ownsRow 0 64 64 v' L (flat l)∧W.grownBy W' (some g)∧(v'.ownBlock=some g∨v'.ownBlock=some W.heap.size):=by
 obtain⟨ie,hie,hiz,hisz,hiby⟩:=info_parts Z47
 have hlen:=hB.len
 cases a with
 | none=>
   have hc:=ha rfl
   have hle:=hB.le
   obtain rfl:L=0:=by omega
   subst hc
   obtain rfl:l= []:=List.eq_nil_of_length_eq_zero hlen
   exact⟨_,W,run_append_owned_none (P:=Tryz.prog) (w:=W) 0 22 22 64 ie 64 u41 hie _ 0 [] ho,ho,World.grownBy.refl W _, .inl rfl⟩
 | some x=>
   obtain⟨v',W',hr,h2,h3,_,h5⟩:=run_append_own_at (P:=Tryz.prog) W 0 22 22 64 ie _ 64 64 u41 hie hiz hisz hiby (by rfl) (by omega) _ 0 [] ho x L c (flat l) (by rw [Z6a,hlen]) (fun j u hj=>hB.news j u hj) (Zlp l) (by unfold maxLen;omega) (by omega) (Nat.zero_le _)
   simp only [Nat.zero_add,List.nil_append]at hr h2
   exact⟨v',W',hr,h2,h3,h5⟩
theorem Zf6 (u:World):(Instr.buildSlice 22 0 #[]).run Tryz.prog u= .ok (.slice (some ⟨u.heap.size,0,none⟩) 0 0) (u.alloc (.cells #[] 64)):=by
 obtain⟨ie,hie,hz,hs,hb⟩:=info_parts Z47
 simp [Instr.buildSlice,run_underlying u41,sizeOf,typeInfo,hie,Instr.fill,newRow]
 rw [show Array.range 0=#[]from rfl]
 simp
theorem own0 (u:World):(u.alloc (.cells #[] 64)).ownsRow 0 64 64 (.slice (some ⟨u.heap.size,0,none⟩) 0 0) 0 []:=
 ⟨rfl, .inr ⟨_,0,#[],rfl,Nat.zero_le _,heap_alloc_new u _,Nat.le_refl _,by decide,by simp,by simp⟩⟩
theorem Z08 (a:Act) (i j:Tmp) (v:Value):(a.put (some i) v).eval (.tmp j)=if j=i∧i < a.tmps.size then v else a.eval (.tmp j):=by
 unfold Act.put Act.eval
 by_cases e:j=i
 · subst e
   by_cases h:j < a.tmps.size
   · simp [h]
   · simp [h]
 · have e':¬i=j:=fun h=>e h.symm
   simp [e,e']
theorem Z0q (a:Act) (i:Tmp) (v:Value):(a.put (some i) v).tmps.size=a.tmps.size:=by unfold Act.put;simp
theorem Zlu {P:Program} {md:Region.Mode} {ops:Array Oper} {Q:Exit→Act→World→Prop} {S:World→Prop} {n:Nat} {l:Array Bool} {A B:Act} {w:World} (e:A=B) (h:wpAnyH P md ops Q S n l B w):wpAnyH P md ops Q S n l A w:=e▸h
theorem Z74 {P:Program} {ops:Array Oper} {Q:Exit→Act→World→Prop} {l:List Oper} {A B:Act} {w:World} (e:A=B) (h:wpList P ops Q l B w):wpList P ops Q l A w:=e▸h
theorem Z5g {P:Program} {ops:Array Oper} {o:Oper} {Q:Exit→Act→World→Prop} {a:Act} {w:World} :Rest P ops o Q .normal a w=wpList P (ops.push o) Q [o] a w:=rfl
theorem Z2e {o:Oper} {a:Act} {w w':World} {v:Value} {K:Act→World→Prop} {Q:Exit→Act→World→Prop} (h:(execOp a.eval o).run Tryz.prog w= .ok (.value v) w') (hK:K (a.put o.dst v) w'):Oper.wp Tryz.prog o a w K Q:=by
 unfold Oper.wp;rw [h];exact hK
theorem Z3c {ops:Array Oper} {o:Oper} {a:Act} {w w':World} {Q:Exit→Act→World→Prop} (hw:Region.wanted o (yielded ops a.tmps)=true) (hd:o.dst=none) (h:(execOp a.eval o).run Tryz.prog w= .ok .skip w') (hQ:Q .normal a w'):wpList Tryz.prog ops Q [o] a w:=by
 unfold wpList
 rw [if_pos hw]
 refine .inl ?_
 unfold Oper.wp;rw [h];simp only [Oper.upon,hd];exact hQ
end Go.Proofs.YtogdffonjhghcaaGreatDoor
