/-
  Texts of my own, joined: no statement is proved here.
-/
import Derived.Deep.CutBlock
import Derived.Test.YtogdffonjhghcaaGreatDoorJbm
set_option linter.unusedSimpArgs false
set_option linter.unusedVariables false
namespace Go.Proofs.YtogdffonjhghcaaGreatDoor
open Go.ChangeShapes Go.WideShapes Go.ChangeAt Go.RowKit
theorem Zdb (A:Act) (x y z u v:Value) (dummy:Unit):((((A.put (some 25) x).put (some 35) z).put (some 33) y).put (some 36) u).put (some 37) v=((((A.put (some 25) x).put (some 33) y).put (some 35) z).put (some 36) u).put (some 37) v:=by
 rw [Act.put_comm (A.put (some 25) x) z y (by simp)]
theorem Zp4 (A:Act) (x y z u v:Value) (dummy:Unit):((((A.put (some 35) z).put (some 25) x).put (some 33) y).put (some 36) u).put (some 37) v=((((A.put (some 25) x).put (some 33) y).put (some 35) z).put (some 36) u).put (some 37) v:=by
 rw [Act.put_comm A z x (by simp),Act.put_comm (A.put (some 25) x) z y (by simp)]
def Zar (a0:Act) (y t n i:Nat) (a:Option Addr) (L c:Nat) (b:Blk):Value→Value→Value→Value→Act:=fun v25 v33 v35 v36=>(((((((((((((((((a0.put (some 20) (.pointer (some ⟨y,0,none⟩))).put (some 21) (.pointer (some ⟨y,0,none⟩))).put (some 22) (.pointer (some ⟨y,2,none⟩))).put (some 23) (.slice (some ⟨t,0,none⟩) n n)).put (some 24) (.int .i64 i)).put (some 26) (.pointer (some ⟨y,0,none⟩))).put (some 27) (.pointer (some ⟨y,0,none⟩))).put (some 28) (.pointer (some ⟨y,2,none⟩))).put (some 29) (.slice (some ⟨t,0,none⟩) n n)).put (some 30) (.int .i64 i)).put (some 31) (.pointer (some ⟨t,i,none⟩))).put (some 32) (.slice a L c)).put (some 34) (.agg b.cs.toArray)).put (some 25) v25).put (some 33) v33).put (some 35) v35).put (some 36) v36).put (some 37) (.pointer (some ⟨t,i,none⟩))
set_option maxRecDepth 100000 in
set_option maxHeartbeats 2000000 in
theorem Zp6 {ps:String} {Q:Exit→Act→World→Prop} (hP:∀ c a (i:Tmp) v w,Q (.panic c) (Act.put a (some i) v) w→Q (.panic c) a w) {a0:Act} {u:World} {y t n i bx L c:Nat} {a:Option Addr} {l:List Blk} {b:Blk}
 (hs:a0.tmps.size=45) (e0:a0.eval (.tmp 0)= .pointer (some ⟨y,0,none⟩)) (e1:a0.eval (.tmp 1)= .int .i64 i) (e5:a0.eval (.tmp 5)= .pointer (some ⟨bx,0,none⟩))
 (hi:i < n) (c2:u.cell? ⟨y,2,none⟩=some (.slice (some ⟨t,0,none⟩) n n)) (m1:u.cell? ⟨t,i,none⟩=some (.slice a L c)) (hz:u.frozen? ⟨t,i,none⟩=false) (hlt:t < u.heap.size)
 (hb:u.rangeAt bx 0 b.cs) (hB:Bls u a L c l) (ha:a=none→c=0) (hL:L≤100000)
 (hQ :∀ v25 v33 v35 gg cap W',Below u.heap.size u W'→W'.ownsRow 0 64 64 (.slice (some ⟨gg,0,none⟩) (L+1) cap) (L+1) (flat l++b.cs)→u.heap.size≤gg→gg < W'.heap.size→
   Q .normal (Zar a0 y t n i a L c b v25 v33 v35 (.slice (some ⟨gg,0,none⟩) (L+1) cap)) (W'.setCell ⟨t,i,none⟩ (.slice (some ⟨gg,0,none⟩) (L+1) cap))):
 (Code.region 6
 #[{ dst:=some 20,op:=Op.move (Operand.tmp 0),type:=35,pos:=ps,after:=#[],guard:=none},
   { dst:=some 21,op:=Op.nilCheck (Operand.tmp 20),type:=0,pos:=ps,
     after:=#[⟨0, .data⟩],guard:=none},
   { dst:=some 22,op:=Op.fieldAddr 62 (Operand.tmp 21) 2,type:=0,pos:=ps,
     after:=#[⟨1, .data⟩],guard:=none},
   { dst:=some 23,op:=Op.load 60 (Operand.tmp 22),type:=60,pos:=ps,
     after:=#[⟨2, .data⟩],guard:=none},
   { dst:=some 24,op:=Op.move (Operand.tmp 1),type:=3,pos:=ps,after:=#[],guard:=none},
   { dst:=some 25,op:=Op.buildSlice 22 0 #[],type:=22,pos:=ps,after:=#[],guard:=none},
   { dst:=some 26,op:=Op.move (Operand.tmp 0),type:=35,pos:=ps,after:=#[],guard:=none},
   { dst:=some 27,op:=Op.nilCheck (Operand.tmp 26),type:=0,pos:=ps,
     after:=#[⟨6, .data⟩],guard:=none},
   { dst:=some 28,op:=Op.fieldAddr 62 (Operand.tmp 27) 2,type:=0,pos:=ps,
     after:=#[⟨7, .data⟩],guard:=none},
   { dst:=some 29,op:=Op.load 60 (Operand.tmp 28),type:=60,pos:=ps,
     after:=#[⟨8, .data⟩],guard:=none},
   { dst:=some 30,op:=Op.move (Operand.tmp 1),type:=3,pos:=ps,after:=#[],guard:=none},
   { dst:=some 31,op:=Op.indexAddr 60 (Operand.tmp 29) (Operand.tmp 30),type:=0,pos:=ps,
     after:=#[⟨9, .data⟩,⟨10, .data⟩],guard:=none},
   { dst:=some 32,op:=Op.load 22 (Operand.tmp 31),type:=22,pos:=ps,
     after:=#[⟨11, .data⟩],guard:=none},
   { dst:=some 33,
     op :=
      Op.call
       { callee:=Callee.builtin Builtin.append,args:=#[Operand.tmp 25,Operand.tmp 32],
         argTypes:=#[22,22]},
     type:=22,pos:=ps,
     after:=#[⟨5, .data⟩,⟨12, .data⟩],guard:=none},
   { dst:=some 34,op:=Op.load 64 (Operand.tmp 5),type:=64,pos:=ps,after:=#[],guard:=none},
   { dst:=some 35,op:=Op.buildSlice 22 1 #[(0,Operand.tmp 34)],type:=22,pos:=ps,
     after:=#[⟨14, .data⟩],guard:=none},
   { dst:=some 36,
     op :=
      Op.call
       { callee:=Callee.builtin Builtin.append,args:=#[Operand.tmp 33,Operand.tmp 35],
         argTypes:=#[22,22]},
     type:=22,pos:=ps,
     after :=
      #[⟨13, .data⟩,⟨15, .data⟩,
        ⟨13, .chain⟩],
     guard:=none},
   { dst:=some 37,op:=Op.indexAddr 60 (Operand.tmp 23) (Operand.tmp 24),type:=0,pos:=ps,
     after :=
      #[⟨3, .data⟩,⟨4, .data⟩,⟨0, .phase⟩,
        ⟨1, .phase⟩,⟨2, .phase⟩,
        ⟨3, .phase⟩,⟨4, .phase⟩,
        ⟨5, .phase⟩,⟨6, .phase⟩,
        ⟨7, .phase⟩,⟨8, .phase⟩,
        ⟨9, .phase⟩,⟨10, .phase⟩,
        ⟨11, .phase⟩,⟨12, .phase⟩,
        ⟨13, .phase⟩,⟨14, .phase⟩,
        ⟨15, .phase⟩,⟨16, .phase⟩],
     guard:=none},
   { dst:=none,op:=Op.store 22 (Operand.tmp 37) (Operand.tmp 36),type:=0,pos:=ps,
     after :=
      #[⟨17, .data⟩,⟨16, .data⟩,
        ⟨16, .chain⟩,⟨0, .phase⟩,
        ⟨1, .phase⟩,⟨2, .phase⟩,
        ⟨3, .phase⟩,⟨4, .phase⟩,
        ⟨5, .phase⟩,⟨6, .phase⟩,
        ⟨7, .phase⟩,⟨8, .phase⟩,
        ⟨9, .phase⟩,⟨10, .phase⟩,
        ⟨11, .phase⟩,⟨12, .phase⟩,
        ⟨13, .phase⟩,⟨14, .phase⟩,
        ⟨15, .phase⟩,⟨16, .phase⟩],
     guard:=none}]
 true).wp Tryz.prog Q a0 u:=by
 have i1:(0:Int)≤(i:Int):=by omega
 have i2:(i:Int) < (n:Int):=by omega
 have hS:∀ v,Below u.heap.size u v→(v.cell? ⟨y,2,none⟩=some (.slice (some ⟨t,0,none⟩) n n)∧v.cell? ⟨t,i,none⟩=some (.slice a L c)∧v.rangeAt bx 0 b.cs):=fun v s=>⟨(Stp.of_below s (fun _=>False)).cell c2 id,(Stp.of_below s (fun _=>False)).cell m1 id,(Stp.of_below s (fun _=>False)).range hb id⟩
 have bD:Below u.heap.size u u.drew:=(Below.refl _ u).drew
 refine Z0n (S:=fun u=>u.cell? ⟨y,2,none⟩=some (.slice (some ⟨t,0,none⟩) n n)∧u.cell? ⟨t,i,none⟩=some (.slice a L c)∧u.rangeAt bx 0 b.cs) _ _ (by simp only [List.pop_toArray,List.dropLast_cons_cons,List.dropLast_singleton];rfl) (by simp only [List.back?_toArray,List.getLast?_cons_cons,List.getLast?_singleton];rfl) (by kernel_rfl) (by kernel_rfl) (hS _ bD) (fun hHeld=>?_)
 refine wpAnyH_take (i:=0) (v:= .pointer (some ⟨y,0,none⟩)) rfl (by kernel_rfl) (by kernel_rfl) (by kernel_rfl) (fun _ _ _ h=>hP _ _ _ _ _ h) (Or.inl ⟨by rfl,?_⟩) hHeld ?_
 · intro v hv
   simp [execOp,e0]
 refine wpAnyH_take (i:=1) (v:= .pointer (some ⟨y,0,none⟩)) rfl (by kernel_rfl) (by kernel_rfl) (by kernel_rfl) (fun _ _ _ h=>hP _ _ _ _ _ h) (Or.inl ⟨by rfl,?_⟩) hHeld ?_
 · intro v hv
   simp [execOp,Z08,hs]
   try go_simp
 refine wpAnyH_take (i:=2) (v:= .pointer (some ⟨y,2,none⟩)) rfl (by kernel_rfl) (by kernel_rfl) (by kernel_rfl) (fun _ _ _ h=>hP _ _ _ _ _ h) (Or.inl ⟨by rfl,?_⟩) hHeld ?_
 · intro v hv
   simp [execOp,Z08,Z0q,hs]
   go_simp
 refine wpAnyH_take (i:=3) (v:= .slice (some ⟨t,0,none⟩) n n) rfl (by kernel_rfl) (by kernel_rfl) (by kernel_rfl) (fun _ _ _ h=>hP _ _ _ _ _ h) (Or.inl ⟨by rfl,?_⟩) hHeld ?_
 · intro v hv
   obtain⟨hv1,hv2,hv3⟩:=hv
   simp [execOp,Z08,Z0q,hs]
   go_simp
 refine wpAnyH_take (i:=4) (v:= .int .i64 i) rfl (by kernel_rfl) (by kernel_rfl) (by kernel_rfl) (fun _ _ _ h=>hP _ _ _ _ _ h) (Or.inl ⟨by rfl,?_⟩) hHeld ?_
 · intro v hv
   simp [execOp,Z08,e1]
 refine wpAnyH_take (i:=6) (v:= .pointer (some ⟨y,0,none⟩)) rfl (by kernel_rfl) (by kernel_rfl) (by kernel_rfl) (fun _ _ _ h=>hP _ _ _ _ _ h) (Or.inl ⟨by rfl,?_⟩) hHeld ?_
 · intro v hv
   simp [execOp,Z08,e0]
 refine wpAnyH_take (i:=7) (v:= .pointer (some ⟨y,0,none⟩)) rfl (by kernel_rfl) (by kernel_rfl) (by kernel_rfl) (fun _ _ _ h=>hP _ _ _ _ _ h) (Or.inl ⟨by rfl,?_⟩) hHeld ?_
 · intro v hv
   simp [execOp,Z08,Z0q,hs]
   try go_simp
 refine wpAnyH_take (i:=8) (v:= .pointer (some ⟨y,2,none⟩)) rfl (by kernel_rfl) (by kernel_rfl) (by kernel_rfl) (fun _ _ _ h=>hP _ _ _ _ _ h) (Or.inl ⟨by rfl,?_⟩) hHeld ?_
 · intro v hv
   simp [execOp,Z08,Z0q,hs]
   go_simp
 refine wpAnyH_take (i:=9) (v:= .slice (some ⟨t,0,none⟩) n n) rfl (by kernel_rfl) (by kernel_rfl) (by kernel_rfl) (fun _ _ _ h=>hP _ _ _ _ _ h) (Or.inl ⟨by rfl,?_⟩) hHeld ?_
 · intro v hv
   obtain⟨hv1,hv2,hv3⟩:=hv
   simp [execOp,Z08,Z0q,hs]
   go_simp
 refine wpAnyH_take (i:=10) (v:= .int .i64 i) rfl (by kernel_rfl) (by kernel_rfl) (by kernel_rfl) (fun _ _ _ h=>hP _ _ _ _ _ h) (Or.inl ⟨by rfl,?_⟩) hHeld ?_
 · intro v hv
   simp [execOp,Z08,e1]
 refine wpAnyH_take (i:=11) (v:= .pointer (some ⟨t,i,none⟩)) rfl (by kernel_rfl) (by kernel_rfl) (by kernel_rfl) (fun _ _ _ h=>hP _ _ _ _ _ h) (Or.inl ⟨by rfl,?_⟩) hHeld ?_
 · intro v hv
   simp [execOp,Z08,Z0q,hs]
   go_simp
 refine wpAnyH_take (i:=12) (v:= .slice a L c) rfl (by kernel_rfl) (by kernel_rfl) (by kernel_rfl) (fun _ _ _ h=>hP _ _ _ _ _ h) (Or.inl ⟨by rfl,?_⟩) hHeld ?_
 · intro v hv
   obtain⟨hv1,hv2,hv3⟩:=hv
   simp [execOp,Z08,Z0q,hs]
   go_simp
 refine wpAnyH_take (i:=14) (v:= .agg b.cs.toArray) rfl (by kernel_rfl) (by kernel_rfl) (by kernel_rfl) (fun _ _ _ h=>hP _ _ _ _ _ h)
  (yieldsIf_load_mid (by rfl) 64 (.tmp 5) rfl bx 0 (by simp [Z08,e5]) b.cs _ (fun v hv=>hv.2.2) u36 rfl (Z4b b)) hHeld ?_
 refine Zlu (B:=(((((((((((((a0.put (some 20) (.pointer (some ⟨y,0,none⟩))).put (some 21) (.pointer (some ⟨y,0,none⟩))).put (some 22) (.pointer (some ⟨y,2,none⟩))).put (some 23) (.slice (some ⟨t,0,none⟩) n n)).put (some 24) (.int .i64 i)).put (some 26) (.pointer (some ⟨y,0,none⟩))).put (some 27) (.pointer (some ⟨y,0,none⟩))).put (some 28) (.pointer (some ⟨y,2,none⟩))).put (some 29) (.slice (some ⟨t,0,none⟩) n n)).put (some 30) (.int .i64 i)).put (some 31) (.pointer (some ⟨t,i,none⟩))).put (some 32) (.slice a L c)).put (some 34) (.agg b.cs.toArray))) rfl ?_
 obtain⟨A,hA⟩:∃ A,A=(((((((((((((a0.put (some 20) (.pointer (some ⟨y,0,none⟩))).put (some 21) (.pointer (some ⟨y,0,none⟩))).put (some 22) (.pointer (some ⟨y,2,none⟩))).put (some 23) (.slice (some ⟨t,0,none⟩) n n)).put (some 24) (.int .i64 i)).put (some 26) (.pointer (some ⟨y,0,none⟩))).put (some 27) (.pointer (some ⟨y,0,none⟩))).put (some 28) (.pointer (some ⟨y,2,none⟩))).put (some 29) (.slice (some ⟨t,0,none⟩) n n)).put (some 30) (.int .i64 i)).put (some 31) (.pointer (some ⟨t,i,none⟩))).put (some 32) (.slice a L c)).put (some 34) (.agg b.cs.toArray)):=⟨_,rfl⟩
 have a25:∀ v,(A.put (some 25) v).eval (.tmp 25)=v:=fun v=>by rw [hA];simp [Z08,Z0q,hs]
 have zA:A.tmps.size=45:=by rw [hA];simp [Z0q,hs]
 have a32:A.eval (.tmp 32)= .slice a L c:=by rw [hA];simp [Z08,Z0q,hs]
 have a34:A.eval (.tmp 34)= .agg b.cs.toArray:=by rw [hA];simp [Z08,Z0q,hs]
 have a23:A.eval (.tmp 23)= .slice (some ⟨t,0,none⟩) n n:=by rw [hA];simp [Z08,Z0q,hs]
 have a24:A.eval (.tmp 24)= .int .i64 i:=by rw [hA];simp [Z08,Z0q,hs]
 rw [← hA]
 rw [show Zar a0 y t n i a L c b=fun v25 v33 v35 v36=>((((A.put (some 25) v25).put (some 33) v33).put (some 35) v35).put (some 36) v36).put (some 37) (.pointer (some ⟨t,i,none⟩)) by rw [hA];rfl]at hQ
 clear hA
 refine wpAnyH_ready (rs:= [5,15]) (by kernel_rfl) (by simp) ?_
 refine AllReadyH.cons (o:= { dst:=some 25,op:=Op.buildSlice 22 0 #[],type:=22,pos:=ps,after:=#[],guard:=none}) rfl (fun K hK=>?_) (AllReadyH.cons (o:= { dst:=some 35,op:=Op.buildSlice 22 1 #[(0,Operand.tmp 34)],type:=22,pos:=ps,after:=#[⟨14, .data⟩],guard:=none}) rfl (fun K hK=>?_) AllReadyH.nil)
 · have g5le:u.heap.size≤u.drew.heap.size:=Nat.le_refl _
   rw [if_pos (by rfl)]
   refine Z2e (v:= .slice (some ⟨(u.drew).heap.size,0,none⟩) 0 0) (w':=(u.drew).alloc (.cells #[] 64)) ?_ ?_
   · simp only [execOp,Sem.run_bind,List.map_toArray,List.map_nil];rw [Zf6];rfl
   have b5:Below u.heap.size u ((u.drew).alloc (.cells #[] 64)):=Below.alloc bD (Below.size bD) _
   refine hK.out _ _ (hS _ b5) (fun hHeld=>?_)
   clear hK K
   refine wpAnyH_ready (rs:= [13,15]) (by kernel_rfl) (by simp) ?_
   refine AllReadyH.cons (o:= { dst:=some 33,op:=Op.call { callee:=Callee.builtin Builtin.append,args:=#[Operand.tmp 25,Operand.tmp 32],argTypes:=#[22,22]},type:=22,pos:=ps,after:=#[⟨5, .data⟩,⟨12, .data⟩],guard:=none}) rfl (fun K hK=>?_) (AllReadyH.cons (o:= { dst:=some 35,op:=Op.buildSlice 22 1 #[(0,Operand.tmp 34)],type:=22,pos:=ps,after:=#[⟨14, .data⟩],guard:=none}) rfl (fun K hK=>?_) AllReadyH.nil)
   · rw [if_pos (by rfl)]
     obtain⟨v33,w13,hr13,ho13,hg13,hat13⟩:=Za5 (W:=u.drew.alloc (.cells #[] 64)) (g:=u.drew.heap.size) (own0 _) (hB.step (Stp.of_below b5 (fun _=>False)) (fun _ _=>id)) hL ha
     refine Z2e (v:=v33) (w':=w13) ?_ ?_
     · simp only [execOp,resolve,invoke,builtin,Sem.run_bind,Sem.run_pure,Result.andThen_ok,List.map_toArray,List.map_cons,List.map_nil];rw [show(A.put (some 25) (.slice (some ⟨u.drew.heap.size,0,none⟩) 0 0)).eval (.tmp 25)= .slice (some ⟨u.drew.heap.size,0,none⟩) 0 0 by simp [Z08,zA],show(A.put (some 25) (.slice (some ⟨u.drew.heap.size,0,none⟩) 0 0)).eval (.tmp 32)= .slice a L c by simp [Z08,a32]];rw [hr13];rfl
     have b13:Below u.heap.size u w13:=((Stp.of_below b5 (fun x=>u.heap.size≤x)).trans (Stp.of_grown hg13 (fun x hx=> .inl (by injection hx with hx;subst hx;first | exact Below.size b5 | exact g5le)))).below (Nat.le_refl _) (fun x hx=>hx)
     refine hK.out _ _ (hS _ b13) (fun hHeld=>?_)
     clear hK K
     refine wpAnyH_ready (rs:= [15]) (by kernel_rfl) (by simp) ?_
     refine AllReadyH.cons (o:= { dst:=some 35,op:=Op.buildSlice 22 1 #[(0,Operand.tmp 34)],type:=22,pos:=ps,after:=#[⟨14, .data⟩],guard:=none}) rfl (fun K hK=>?_) AllReadyH.nil
     rw [if_pos (by rfl)]
     refine Z2e (v:= .slice (some ⟨(w13).heap.size,0,none⟩) 1 1) (w':=(w13).alloc (.cells b.cs.toArray 64)) ?_ ?_
     · simp only [execOp,Sem.run_bind,List.map_toArray,List.map_cons,List.map_nil];rw [show((A.put (some 25) (.slice (some ⟨u.drew.heap.size,0,none⟩) 0 0)).put (some 33) v33).eval (.tmp 34)= .agg b.cs.toArray by simp [Z08,a34]];rw [Zc2];rfl
     have b15:Below u.heap.size u ((w13).alloc (.cells b.cs.toArray 64)):=Below.alloc b13 (Below.size b13) _
     refine hK.out _ _ (hS _ b15) (fun hHeld=>?_)
     clear hK K
     refine wpAnyH_ready (rs:= [16]) (by kernel_rfl) (by simp) ?_
     refine AllReadyH.cons (o:= { dst:=some 36,op:=Op.call { callee:=Callee.builtin Builtin.append,args:=#[Operand.tmp 33,Operand.tmp 35],argTypes:=#[22,22]},type:=22,pos:=ps,after:=#[⟨13, .data⟩,⟨15, .data⟩,⟨13, .chain⟩],guard:=none}) rfl (fun K hK=>?_) AllReadyH.nil
     obtain⟨ie,hie,hiz,hisz,hiby⟩:=info_parts Z47
     refine step_append_lies _ rfl (.tmp 33) (.tmp 35) 22 rfl 0 64 ie _ 64 64 u41 hie hiz hisz hiby (by rfl) (by omega) v33 L (flat l) (by simp [Z08,Z0q,zA]) (Zbc ho13 (Stp.of_alloc _ _ (fun _=>False)) (fun _ _=>id)) ⟨w13.heap.size,0,none⟩ 1 1 b.cs (by simp [Z08,Z0q,zA]) (by rw [b.cs_len]) (fun j v hv=>by have:=(Z0v w13 b.cs 64) j v hv;rw [Addr.add_lit];exact this) b.cs_one (by omega) (by unfold maxLen;omega) (by omega) (Nat.zero_le _) _ rfl ?_
     intro gg cap w16 ho16 hg16 hat16 hlt16
     have n33:∀ x,v33.ownBlock=some x→u.heap.size≤x:=fun x hx=>by rcases hat13 with e | e<;>(rw [e]at hx;injection hx with hx;subst hx;first | exact g5le | exact(Below.size b5))
     have b16:Below u.heap.size u w16:=((Stp.of_below b15 (fun x=>u.heap.size≤x)).trans (Stp.of_grown hg16 (fun x hx=> .inl (n33 x hx)))).below (Nat.le_refl _) (fun x hx=>hx)
     have gle:u.heap.size≤gg:=by rcases hat16 with e | e;exact n33 gg e;rw [e];exact Below.size b15
     refine hK.out _ _ (hS _ b16) (fun hHeld=>?_)
     clear hK K
     refine wpAnyH_take (i:=17) (v:= .pointer (some ⟨t,i,none⟩)) rfl (by kernel_rfl) (by kernel_rfl) (by kernel_rfl) (fun _ _ _ h=>hP _ _ _ _ _ h) (Or.inl ⟨by rfl,?_⟩) hHeld ?_
     · intro v hv
       simp [execOp,Z08,a23,a24]
       go_simp
     refine wpAnyH_done (by kernel_rfl) ?_ _
     rw [Z5g]
     have hq:=hQ (.slice (some ⟨u.drew.heap.size,0,none⟩) 0 0) v33 (.slice (some ⟨w13.heap.size,0,none⟩) 1 1) gg cap w16 b16 ho16 gle hlt16
     have c3:w16.cell? ⟨t,i,none⟩=some (.slice a L c):=(Stp.of_below b16 (fun _=>False)).cell m1 id
     have z3:w16.frozen? ⟨t,i,none⟩=false:=by rw [(Stp.of_below b16 (fun _=>False)).frozen (p:=⟨t,i,none⟩) hlt id];exact hz
     refine Z74 (B:=((((A.put (some 25) (.slice (some ⟨u.drew.heap.size,0,none⟩) 0 0)).put (some 33) v33).put (some 35) (.slice (some ⟨w13.heap.size,0,none⟩) 1 1)).put (some 36) (.slice (some ⟨gg,0,none⟩) (L+1) cap)).put (some 37) (.pointer (some ⟨t,i,none⟩))) rfl ?_
     refine Z3c (w':=w16.setCell ⟨t,i,none⟩ (.slice (some ⟨gg,0,none⟩) (L+1) cap)) (by rfl) rfl ?_ hq
     have v1:(((((A.put (some 25) (.slice (some ⟨u.drew.heap.size,0,none⟩) 0 0)).put (some 33) v33).put (some 35) (.slice (some ⟨w13.heap.size,0,none⟩) 1 1)).put (some 36) (.slice (some ⟨gg,0,none⟩) (L+1) cap)).put (some 37) (.pointer (some ⟨t,i,none⟩))).eval (.tmp 37)= .pointer (some ⟨t,i,none⟩):=by simp [Z08,Z0q,zA]
     have v2:(((((A.put (some 25) (.slice (some ⟨u.drew.heap.size,0,none⟩) 0 0)).put (some 33) v33).put (some 35) (.slice (some ⟨w13.heap.size,0,none⟩) 1 1)).put (some 36) (.slice (some ⟨gg,0,none⟩) (L+1) cap)).put (some 37) (.pointer (some ⟨t,i,none⟩))).eval (.tmp 36)= .slice (some ⟨gg,0,none⟩) (L+1) cap:=by simp [Z08,Z0q,zA]
     clear hq hQ hHeld
     simp only [execOp,v1,v2]
     go_simp
   · rw [if_pos (by rfl)]
     refine Z2e (v:= .slice (some ⟨(u.drew.alloc (.cells #[] 64)).heap.size,0,none⟩) 1 1) (w':=(u.drew.alloc (.cells #[] 64)).alloc (.cells b.cs.toArray 64)) ?_ ?_
     · simp only [execOp,Sem.run_bind,List.map_toArray,List.map_cons,List.map_nil];rw [show(A.put (some 25) (.slice (some ⟨u.drew.heap.size,0,none⟩) 0 0)).eval (.tmp 34)= .agg b.cs.toArray by simp [Z08,a34]];rw [Zc2];rfl
     have b15:Below u.heap.size u ((u.drew.alloc (.cells #[] 64)).alloc (.cells b.cs.toArray 64)):=Below.alloc b5 (Below.size b5) _
     refine hK.out _ _ (hS _ b15) (fun hHeld=>?_)
     clear hK K
     refine wpAnyH_ready (rs:= [13]) (by kernel_rfl) (by simp) ?_
     refine AllReadyH.cons (o:= { dst:=some 33,op:=Op.call { callee:=Callee.builtin Builtin.append,args:=#[Operand.tmp 25,Operand.tmp 32],argTypes:=#[22,22]},type:=22,pos:=ps,after:=#[⟨5, .data⟩,⟨12, .data⟩],guard:=none}) rfl (fun K hK=>?_) AllReadyH.nil
     rw [if_pos (by rfl)]
     obtain⟨v33,w13,hr13,ho13,hg13,hat13⟩:=Za5 (W:=(u.drew.alloc (.cells #[] 64)).alloc (.cells b.cs.toArray 64)) (g:=u.drew.heap.size) (Zbc (own0 _) (Stp.of_alloc _ _ (fun _=>False)) (fun _ _=>id)) (hB.step (Stp.of_below b15 (fun _=>False)) (fun _ _=>id)) hL ha
     refine Z2e (v:=v33) (w':=w13) ?_ ?_
     · simp only [execOp,resolve,invoke,builtin,Sem.run_bind,Sem.run_pure,Result.andThen_ok,List.map_toArray,List.map_cons,List.map_nil];rw [show((A.put (some 25) (.slice (some ⟨u.drew.heap.size,0,none⟩) 0 0)).put (some 35) (.slice (some ⟨(u.drew.alloc (.cells #[] 64)).heap.size,0,none⟩) 1 1)).eval (.tmp 25)= .slice (some ⟨u.drew.heap.size,0,none⟩) 0 0 by simp [Z08,Z0q,zA],show((A.put (some 25) (.slice (some ⟨u.drew.heap.size,0,none⟩) 0 0)).put (some 35) (.slice (some ⟨(u.drew.alloc (.cells #[] 64)).heap.size,0,none⟩) 1 1)).eval (.tmp 32)= .slice a L c by simp [Z08,a32]];rw [hr13];rfl
     have b13:Below u.heap.size u w13:=((Stp.of_below b15 (fun x=>u.heap.size≤x)).trans (Stp.of_grown hg13 (fun x hx=> .inl (by injection hx with hx;subst hx;first | exact Below.size b15 | exact g5le)))).below (Nat.le_refl _) (fun x hx=>hx)
     refine hK.out _ _ (hS _ b13) (fun hHeld=>?_)
     clear hK K
     refine wpAnyH_ready (rs:= [16]) (by kernel_rfl) (by simp) ?_
     refine AllReadyH.cons (o:= { dst:=some 36,op:=Op.call { callee:=Callee.builtin Builtin.append,args:=#[Operand.tmp 33,Operand.tmp 35],argTypes:=#[22,22]},type:=22,pos:=ps,after:=#[⟨13, .data⟩,⟨15, .data⟩,⟨13, .chain⟩],guard:=none}) rfl (fun K hK=>?_) AllReadyH.nil
     obtain⟨ie,hie,hiz,hisz,hiby⟩:=info_parts Z47
     refine step_append_lies _ rfl (.tmp 33) (.tmp 35) 22 rfl 0 64 ie _ 64 64 u41 hie hiz hisz hiby (by rfl) (by omega) v33 L (flat l) (by simp [Z08,Z0q,zA]) ho13 ⟨(u.drew.alloc (.cells #[] 64)).heap.size,0,none⟩ 1 1 b.cs (by simp [Z08,Z0q,zA]) (by rw [b.cs_len]) (fun j v hv=>by have:=((Stp.of_grown hg13 (F:=fun x=>some x=some (u.drew.heap.size)) (fun x hx=> .inl hx.symm)).range (Z0v (u.drew.alloc (.cells #[] 64)) b.cs 64) (fun e=>by injection e with e;simp at e)) j v hv;rw [Addr.add_lit];exact this) b.cs_one (by omega) (by unfold maxLen;omega) (by omega) (Nat.zero_le _) _ rfl ?_
     intro gg cap w16 ho16 hg16 hat16 hlt16
     have n33:∀ x,v33.ownBlock=some x→u.heap.size≤x:=fun x hx=>by rcases hat13 with e | e<;>(rw [e]at hx;injection hx with hx;subst hx;first | exact g5le | exact(Below.size b15))
     have b16:Below u.heap.size u w16:=((Stp.of_below b13 (fun x=>u.heap.size≤x)).trans (Stp.of_grown hg16 (fun x hx=> .inl (n33 x hx)))).below (Nat.le_refl _) (fun x hx=>hx)
     have gle:u.heap.size≤gg:=by rcases hat16 with e | e;exact n33 gg e;rw [e];exact Below.size b13
     refine hK.out _ _ (hS _ b16) (fun hHeld=>?_)
     clear hK K
     refine wpAnyH_take (i:=17) (v:= .pointer (some ⟨t,i,none⟩)) rfl (by kernel_rfl) (by kernel_rfl) (by kernel_rfl) (fun _ _ _ h=>hP _ _ _ _ _ h) (Or.inl ⟨by rfl,?_⟩) hHeld ?_
     · intro v hv
       simp [execOp,Z08,a23,a24]
       go_simp
     refine wpAnyH_done (by kernel_rfl) ?_ _
     rw [Z5g]
     have hq:=hQ (.slice (some ⟨u.drew.heap.size,0,none⟩) 0 0) v33 (.slice (some ⟨(u.drew.alloc (.cells #[] 64)).heap.size,0,none⟩) 1 1) gg cap w16 b16 ho16 gle hlt16
     have c3:w16.cell? ⟨t,i,none⟩=some (.slice a L c):=(Stp.of_below b16 (fun _=>False)).cell m1 id
     have z3:w16.frozen? ⟨t,i,none⟩=false:=by rw [(Stp.of_below b16 (fun _=>False)).frozen (p:=⟨t,i,none⟩) hlt id];exact hz
     refine Z74 (B:=((((A.put (some 25) (.slice (some ⟨u.drew.heap.size,0,none⟩) 0 0)).put (some 33) v33).put (some 35) (.slice (some ⟨(u.drew.alloc (.cells #[] 64)).heap.size,0,none⟩) 1 1)).put (some 36) (.slice (some ⟨gg,0,none⟩) (L+1) cap)).put (some 37) (.pointer (some ⟨t,i,none⟩))) (Zdb _ _ _ _ _ _ ()) ?_
     refine Z3c (w':=w16.setCell ⟨t,i,none⟩ (.slice (some ⟨gg,0,none⟩) (L+1) cap)) (by rfl) rfl ?_ hq
     have v1:(((((A.put (some 25) (.slice (some ⟨u.drew.heap.size,0,none⟩) 0 0)).put (some 33) v33).put (some 35) (.slice (some ⟨(u.drew.alloc (.cells #[] 64)).heap.size,0,none⟩) 1 1)).put (some 36) (.slice (some ⟨gg,0,none⟩) (L+1) cap)).put (some 37) (.pointer (some ⟨t,i,none⟩))).eval (.tmp 37)= .pointer (some ⟨t,i,none⟩):=by simp [Z08,Z0q,zA]
     have v2:(((((A.put (some 25) (.slice (some ⟨u.drew.heap.size,0,none⟩) 0 0)).put (some 33) v33).put (some 35) (.slice (some ⟨(u.drew.alloc (.cells #[] 64)).heap.size,0,none⟩) 1 1)).put (some 36) (.slice (some ⟨gg,0,none⟩) (L+1) cap)).put (some 37) (.pointer (some ⟨t,i,none⟩))).eval (.tmp 36)= .slice (some ⟨gg,0,none⟩) (L+1) cap:=by simp [Z08,Z0q,zA]
     clear hq hQ hHeld
     simp only [execOp,v1,v2]
     go_simp
 · rw [if_pos (by rfl)]
   refine Z2e (v:= .slice (some ⟨(u.drew).heap.size,0,none⟩) 1 1) (w':=(u.drew).alloc (.cells b.cs.toArray 64)) ?_ ?_
   · simp only [execOp,Sem.run_bind,List.map_toArray,List.map_cons,List.map_nil];rw [show(A).eval (.tmp 34)= .agg b.cs.toArray by simp [a34]];rw [Zc2];rfl
   have b15:Below u.heap.size u ((u.drew).alloc (.cells b.cs.toArray 64)):=Below.alloc bD (Below.size bD) _
   refine hK.out _ _ (hS _ b15) (fun hHeld=>?_)
   clear hK K
   refine wpAnyH_ready (rs:= [5]) (by kernel_rfl) (by simp) ?_
   refine AllReadyH.cons (o:= { dst:=some 25,op:=Op.buildSlice 22 0 #[],type:=22,pos:=ps,after:=#[],guard:=none}) rfl (fun K hK=>?_) AllReadyH.nil
   rw [if_pos (by rfl)]
   refine Z2e (v:= .slice (some ⟨(u.drew.alloc (.cells b.cs.toArray 64)).heap.size,0,none⟩) 0 0) (w':=(u.drew.alloc (.cells b.cs.toArray 64)).alloc (.cells #[] 64)) ?_ ?_
   · simp only [execOp,Sem.run_bind,List.map_toArray,List.map_nil];rw [Zf6];rfl
   have b5:Below u.heap.size u ((u.drew.alloc (.cells b.cs.toArray 64)).alloc (.cells #[] 64)):=Below.alloc b15 (Below.size b15) _
   refine hK.out _ _ (hS _ b5) (fun hHeld=>?_)
   clear hK K
   have g5le:u.heap.size≤(u.drew.alloc (.cells b.cs.toArray 64)).heap.size:=Below.size b15
   refine wpAnyH_ready (rs:= [13]) (by kernel_rfl) (by simp) ?_
   refine AllReadyH.cons (o:= { dst:=some 33,op:=Op.call { callee:=Callee.builtin Builtin.append,args:=#[Operand.tmp 25,Operand.tmp 32],argTypes:=#[22,22]},type:=22,pos:=ps,after:=#[⟨5, .data⟩,⟨12, .data⟩],guard:=none}) rfl (fun K hK=>?_) AllReadyH.nil
   rw [if_pos (by rfl)]
   obtain⟨v33,w13,hr13,ho13,hg13,hat13⟩:=Za5 (W:=(u.drew.alloc (.cells b.cs.toArray 64)).alloc (.cells #[] 64)) (g:=(u.drew.alloc (.cells b.cs.toArray 64)).heap.size) (own0 _) (hB.step (Stp.of_below b5 (fun _=>False)) (fun _ _=>id)) hL ha
   refine Z2e (v:=v33) (w':=w13) ?_ ?_
   · simp only [execOp,resolve,invoke,builtin,Sem.run_bind,Sem.run_pure,Result.andThen_ok,List.map_toArray,List.map_cons,List.map_nil];rw [show((A.put (some 35) (.slice (some ⟨u.drew.heap.size,0,none⟩) 1 1)).put (some 25) (.slice (some ⟨(u.drew.alloc (.cells b.cs.toArray 64)).heap.size,0,none⟩) 0 0)).eval (.tmp 25)= .slice (some ⟨(u.drew.alloc (.cells b.cs.toArray 64)).heap.size,0,none⟩) 0 0 by simp [Z08,Z0q,zA],show((A.put (some 35) (.slice (some ⟨u.drew.heap.size,0,none⟩) 1 1)).put (some 25) (.slice (some ⟨(u.drew.alloc (.cells b.cs.toArray 64)).heap.size,0,none⟩) 0 0)).eval (.tmp 32)= .slice a L c by simp [Z08,a32]];rw [hr13];rfl
   have b13:Below u.heap.size u w13:=((Stp.of_below b5 (fun x=>u.heap.size≤x)).trans (Stp.of_grown hg13 (fun x hx=> .inl (by injection hx with hx;subst hx;first | exact Below.size b5 | exact g5le)))).below (Nat.le_refl _) (fun x hx=>hx)
   refine hK.out _ _ (hS _ b13) (fun hHeld=>?_)
   clear hK K
   refine wpAnyH_ready (rs:= [16]) (by kernel_rfl) (by simp) ?_
   refine AllReadyH.cons (o:= { dst:=some 36,op:=Op.call { callee:=Callee.builtin Builtin.append,args:=#[Operand.tmp 33,Operand.tmp 35],argTypes:=#[22,22]},type:=22,pos:=ps,after:=#[⟨13, .data⟩,⟨15, .data⟩,⟨13, .chain⟩],guard:=none}) rfl (fun K hK=>?_) AllReadyH.nil
   obtain⟨ie,hie,hiz,hisz,hiby⟩:=info_parts Z47
   refine step_append_lies _ rfl (.tmp 33) (.tmp 35) 22 rfl 0 64 ie _ 64 64 u41 hie hiz hisz hiby (by rfl) (by omega) v33 L (flat l) (by simp [Z08,Z0q,zA]) ho13 ⟨u.drew.heap.size,0,none⟩ 1 1 b.cs (by simp [Z08,Z0q,zA]) (by rw [b.cs_len]) (fun j v hv=>by have:=((Stp.of_grown hg13 (F:=fun x=>some x=some ((u.drew.alloc (.cells b.cs.toArray 64)).heap.size)) (fun x hx=> .inl hx.symm)).range ((Stp.of_alloc _ _ (fun _=>False)).range (Z0v u.drew b.cs 64) id) (fun e=>by injection e with e;simp at e)) j v hv;rw [Addr.add_lit];exact this) b.cs_one (by omega) (by unfold maxLen;omega) (by omega) (Nat.zero_le _) _ rfl ?_
   intro gg cap w16 ho16 hg16 hat16 hlt16
   have n33:∀ x,v33.ownBlock=some x→u.heap.size≤x:=fun x hx=>by rcases hat13 with e | e<;>(rw [e]at hx;injection hx with hx;subst hx;first | exact g5le | exact(Below.size b5))
   have b16:Below u.heap.size u w16:=((Stp.of_below b13 (fun x=>u.heap.size≤x)).trans (Stp.of_grown hg16 (fun x hx=> .inl (n33 x hx)))).below (Nat.le_refl _) (fun x hx=>hx)
   have gle:u.heap.size≤gg:=by rcases hat16 with e | e;exact n33 gg e;rw [e];exact Below.size b13
   refine hK.out _ _ (hS _ b16) (fun hHeld=>?_)
   clear hK K
   refine wpAnyH_take (i:=17) (v:= .pointer (some ⟨t,i,none⟩)) rfl (by kernel_rfl) (by kernel_rfl) (by kernel_rfl) (fun _ _ _ h=>hP _ _ _ _ _ h) (Or.inl ⟨by rfl,?_⟩) hHeld ?_
   · intro v hv
     simp [execOp,Z08,a23,a24]
     go_simp
   refine wpAnyH_done (by kernel_rfl) ?_ _
   rw [Z5g]
   have hq:=hQ (.slice (some ⟨(u.drew.alloc (.cells b.cs.toArray 64)).heap.size,0,none⟩) 0 0) v33 (.slice (some ⟨u.drew.heap.size,0,none⟩) 1 1) gg cap w16 b16 ho16 gle hlt16
   have c3:w16.cell? ⟨t,i,none⟩=some (.slice a L c):=(Stp.of_below b16 (fun _=>False)).cell m1 id
   have z3:w16.frozen? ⟨t,i,none⟩=false:=by rw [(Stp.of_below b16 (fun _=>False)).frozen (p:=⟨t,i,none⟩) hlt id];exact hz
   refine Z74 (B:=((((A.put (some 25) (.slice (some ⟨(u.drew.alloc (.cells b.cs.toArray 64)).heap.size,0,none⟩) 0 0)).put (some 33) v33).put (some 35) (.slice (some ⟨u.drew.heap.size,0,none⟩) 1 1)).put (some 36) (.slice (some ⟨gg,0,none⟩) (L+1) cap)).put (some 37) (.pointer (some ⟨t,i,none⟩))) (Zp4 _ _ _ _ _ _ ()) ?_
   refine Z3c (w':=w16.setCell ⟨t,i,none⟩ (.slice (some ⟨gg,0,none⟩) (L+1) cap)) (by rfl) rfl ?_ hq
   have v1:(((((A.put (some 25) (.slice (some ⟨(u.drew.alloc (.cells b.cs.toArray 64)).heap.size,0,none⟩) 0 0)).put (some 33) v33).put (some 35) (.slice (some ⟨u.drew.heap.size,0,none⟩) 1 1)).put (some 36) (.slice (some ⟨gg,0,none⟩) (L+1) cap)).put (some 37) (.pointer (some ⟨t,i,none⟩))).eval (.tmp 37)= .pointer (some ⟨t,i,none⟩):=by simp [Z08,Z0q,zA]
   have v2:(((((A.put (some 25) (.slice (some ⟨(u.drew.alloc (.cells b.cs.toArray 64)).heap.size,0,none⟩) 0 0)).put (some 33) v33).put (some 35) (.slice (some ⟨u.drew.heap.size,0,none⟩) 1 1)).put (some 36) (.slice (some ⟨gg,0,none⟩) (L+1) cap)).put (some 37) (.pointer (some ⟨t,i,none⟩))).eval (.tmp 36)= .slice (some ⟨gg,0,none⟩) (L+1) cap:=by simp [Z08,Z0q,zA]
   clear hq hQ hHeld
   simp only [execOp,v1,v2]
   go_simp
theorem Rk.wrote {R:Nat→Prop} {u W:World} {y q s t gg cap:Nat} {v:Nat→Value} {S:DS} (h:Rk u y q s t v S R) {i:Nat} (hi:i < S.n) (b:Blk) (bel:Below u.heap.size u W)
 (ho:W.ownsRow 0 64 64 (.slice (some ⟨gg,0,none⟩) ((S.wt i).length+1) cap) ((S.wt i).length+1) (flat (S.wt i)++b.cs)) (hg:u.heap.size≤gg) (hlt:gg < W.heap.size):
 Rk (W.setCell ⟨t,i,none⟩ (.slice (some ⟨gg,0,none⟩) ((S.wt i).length+1) cap)) y q s t (fun j=>if j=i then .slice (some ⟨gg,0,none⟩) ((S.wt i).length+1) cap else v j) (S.wrote i b) (fun x=>R x∨x=gg):=by
 have h:=h.step (Stp.of_below bel (fun _=>False)) (fun _ _=>id) |> fun hW=>(⟨hW,h⟩:Rk W y q s t v S R∧Rk u y q s t v S R)
 obtain⟨h,h0⟩:=h
 have ny:gg≠y:=fun e=>by have:=h0.lt y h0.ry;omega
 have ns:gg≠s:=fun e=>by have:=h0.lt s h0.rs;omega
 have nt:gg≠t:=fun e=>by have:=h0.lt t h0.rt;omega
 have k:Stp (fun x=>x=t) W (W.setCell ⟨t,i,none⟩ (.slice (some ⟨gg,0,none⟩) ((S.wt i).length+1) cap)):=(Stp.refl (fun x=>x=t) W).setCell (p:=⟨t,i,none⟩) (.inl rfl) _
 refine ⟨k.cell h.c0 h.yt,k.cell h.c1 h.yt,k.cell h.c2 h.yt,k.cell h.c3 h.yt,by rw [k.frozen (p:=⟨y,3,none⟩) (h.lt y h.ry) h.yt];exact h.z3,fun j hj=>k.range (h.st j hj) h.st',fun j hj=>k.there (h.th j hj) h.st',
  fun j hj=>?_,fun j hj=>by simpa using h.wz j hj,fun j hj=>?_,?_, .inl h.ry, .inl h.rs, .inl h.rt,h.ys,h.yt,h.st',fun x hx=>?_,fun j hj L c e=>?_⟩
 · by_cases e:j=i
   · subst e;simp only [if_true];exact World.cell?_setCell_same _ _ _ (h.wc j hj)
   · simp only [if_neg e];rw [World.cell?_setCell_other _ _ _ _ (fun e'=>e (by injection e' with _ e';exact e'.symm))];exact h.wc j hj
 · by_cases e:j=i
   · subst e
     refine⟨some ⟨gg,0,none⟩,cap,?_,?_,fun x ex=>by injection ex with ex;subst ex;exact⟨.inr rfl,ny,ns,nt⟩⟩
     · show(if j=j then Value.slice (some ⟨gg,0,none⟩) ((S.wt j).length+1) cap else v j)= .slice (some ⟨gg,0,none⟩) (if (j:Int)=(j:Int)then S.wt j++ [b]else S.wt j).length cap
       rw [if_pos rfl,if_pos rfl,List.length_append];rfl
     · show Bls _ (some ⟨gg,0,none⟩) (if (j:Int)=(j:Int)then S.wt j++ [b]else S.wt j).length cap (if (j:Int)=(j:Int)then S.wt j++ [b]else S.wt j)
       rw [if_pos rfl]
       refine Bls.own ?_ rfl
       rw [Zb5,List.length_append]
       exact Z2u ho k (fun e=>nt e)
   · obtain⟨a,c,ev,hb,hx⟩:=h.wv j hj
     have e':¬(j:Int)=(i:Int):=by omega
     refine⟨a,c,?_,?_,fun x ex=>⟨.inl (hx x ex).1,(hx x ex).2⟩⟩
     · show(if j=i then Value.slice (some ⟨gg,0,none⟩) ((S.wt i).length+1) cap else v j)= .slice a (if (j:Int)=(i:Int)then S.wt i++ [b]else S.wt j).length c
       rw [if_neg e,if_neg e'];exact ev
     · show Bls _ a (if (j:Int)=(i:Int)then S.wt i++ [b]else S.wt j).length c (if (j:Int)=(i:Int)then S.wt i++ [b]else S.wt j)
       rw [if_neg e'];exact hb.step k (fun x ex=>(hx x ex).2.2.2)
 · refine⟨h.ok.n1,h.ok.n2,h.ok.st,fun k hk=>?_⟩
   show(if k=(i:Int)then S.wt i++ [b]else S.wt k)= []
   rw [if_neg (fun e=>hk (by subst e;exact⟨by omega,by show(i:Int) < S.n;omega⟩))]
   exact h.ok.wt k hk
 · rcases hx with hx | hx
   · exact Nat.lt_of_lt_of_le (h.lt x hx) k.size
   · subst hx;exact Nat.lt_of_lt_of_le hlt k.size
 · by_cases e':j=i
   · simp only [if_pos e']at e;injection e with e1;cases e1
   · simp only [if_neg e']at e;exact h.wn j hj L c e
def DS.rwrite (S:DS) (p:RS) (i:Int) (b:Blk):DS:=if rRes S p i=0 then(S.wrote i b).count else S
set_option maxRecDepth 100000 in
set_option maxHeartbeats 1000000 in
theorem Zen {R:Nat→Prop} {w:World} {y q:Nat} {S:DS} {p:RS} (h:RD w y q S R) (hq:Rw w q p) (hqR:¬R q) (ok:p.ok) (i:Int) (b:Blk) (hn:(S.wt i).length < 100000):
 Calls Tryz.prog 247 #[.pointer (some ⟨y,0,none⟩), .int .i64 i, .agg b.cs.toArray] w fun e w'=>e= .returned (.int .i64 (rRes S p i))∧∃ R',RD w' y q (S.rwrite p i b) R'∧Rw w' q (rUse S p i)∧Stp (fun x=>R x∨x=q) w w'∧Grew R R' w w':=by
 have sA:Stp (fun _=>False) w (w.alloc (.cells b.cs.toArray 64)):=Stp.of_alloc _ _ _
 have hA:=h.step sA (fun _ _=>id)
 have his:=Zj2 hA i
 have hqA:Rw (w.alloc (.cells b.cs.toArray 64)) q p:=hq.step (Z3b w _ []) (by simp)
 unfold DS.rwrite rUse rRes
 by_cases hi:S.inn i
 · have e2:decide (S.inn i)=true:=decide_eq_true hi
   rw [e2]at his
   simp only [if_pos hi]
   obtain⟨s,t,v,hk⟩:=hA
   have c0:=hk.c0
   have hql:=hq.lt
   by_cases he:p.useErr=0
   · simp only [if_pos he]
     obtain⟨m,rfl⟩:=Int.eq_ofNat_of_zero_le hi.1
     have hm:m < S.n:=by have:=hi.2;omega
     have n2:=hk.ok.n2
     have hbx:(w.alloc (.cells b.cs.toArray 64)).rangeAt w.heap.size 0 b.cs:=Z0v w _ _
     have hRl:∀ x,R x→x < w.heap.size:=h.lt
     clear h e2 hi
     go_enter Tryz.func247,Tryz.ntmps247
     go_wp2_with (first
      | (go_at_call 119;refine his.mono ?_;rintro e u ⟨rfl,rfl⟩)
      | (go_at_call 228;refine(Z8x q p _ hqA ok).mono ?_;rintro e u1 ⟨rfl,k1,p1⟩;rw [he]))
     have k1':Stp (fun x=>x=q) (w.alloc (.cells b.cs.toArray 64)) u1:=Stp.of_step k1 (by simp)
     have h1:=hk.step k1' (fun x hx e=>hqR (e▸hx))
     have hb1:=k1'.range hbx (fun e=>by omega)
     obtain⟨a,c,ev,hB,_⟩:=h1.wv m hm
     have wc:=h1.wc m hm
     rw [ev]at wc
     refine Zp6 (fun _ _ _ _ _ h=>h) rfl rfl rfl rfl hm h1.c2 wc (h1.wz m hm) (h1.lt t h1.rt) hb1 hB (fun e=>h1.wn m hm _ c (by rw [ev,e])) (by omega) ?_
     intro v25 v33 v35 gg cap W bW hoW hgW hltW
     have d3:=h1.wrote hm b bW hoW hgW hltW
     have d4:=d3.counted
     have c3:=d3.c3
     have z3:=d3.z3
     have kW:Stp R u1 (W.setCell ⟨t,m,none⟩ (.slice (some ⟨gg,0,none⟩) ((S.wt m).length+1) cap)):=(Stp.of_below bW R).setCell (p:=⟨t,m,none⟩) (.inl h1.rt) _
     have k4:Stp R u1 ((W.setCell ⟨t,m,none⟩ (.slice (some ⟨gg,0,none⟩) ((S.wt m).length+1) cap)).setCell ⟨y,3,none⟩ (.int .i64 (wrap64 (S.wr+1)))):=kW.setCell (p:=⟨y,3,none⟩) (.inl h1.ry) _
     have pS:=p1.stp k4 hqR
     have kS:Stp (fun x=>R x∨x=q) w ((W.setCell ⟨t,m,none⟩ (.slice (some ⟨gg,0,none⟩) ((S.wt m).length+1) cap)).setCell ⟨y,3,none⟩ (.int .i64 (wrap64 (S.wr+1)))):=
      (((sA.mono (fun x hx=>hx.elim)).trans (k1'.mono (fun x hx=> .inl (.inr hx))))).trans (k4.mono (fun x hx=> .inl (.inl hx)))
     have gG:Grew R (fun x=>R x∨x=gg) w ((W.setCell ⟨t,m,none⟩ (.slice (some ⟨gg,0,none⟩) ((S.wt m).length+1) cap)).setCell ⟨y,3,none⟩ (.int .i64 (wrap64 (S.wr+1)))):=fun x hx=>by
      rcases hx with hx | hx
      · exact .inl hx
      · subst hx
        have z1:=k1'.size
        simp at z1
        exact .inr ⟨by omega,by simpa using hltW⟩
     clear kW k4 k1' k1 p1 hk his sA hqA hb1 hB wc ev bW hoW hbx h1
     generalize (W.setCell ⟨t,m,none⟩ (.slice (some ⟨gg,0,none⟩) ((S.wt m).length+1) cap))=W1 at *
     generalize Value.slice (some ⟨gg,0,none⟩) ((S.wt m).length+1) cap=v36
     generalize Value.slice a (S.wt m).length c=v32
     unfold Zar
     simp only [Act.put,List.setIfInBounds_toArray,List.set_cons_zero,List.set_cons_succ]
     go_wp2_with fail
     go_returns
     exact⟨by rw [he];rfl,_,⟨s,t,_,d4⟩,pS,kS,gG⟩
   · simp only [if_neg he]
     go_enter Tryz.func247,Tryz.ntmps247
     go_wp2_with (first
      | (go_at_call 119;refine his.mono ?_;rintro e u ⟨rfl,rfl⟩)
      | (go_at_call 228;refine(Z8x q p _ hqA ok).mono ?_;rintro e u1 ⟨rfl,k1,p1⟩))
     go_returns
     have k1':Stp (fun x=>x=q) (w.alloc (.cells b.cs.toArray 64)) u1:=Stp.of_step k1 (by simp)
     exact⟨rfl,R,⟨s,t,v,hk.step k1' (fun x hx e=>hqR (e▸hx))⟩,p1,(sA.mono (fun x hx=>hx.elim)).trans (k1'.mono (fun x hx=> .inl (.inr hx))),Grew.refl _ _ _⟩
 · have e2:decide (S.inn i)=false:=decide_eq_false hi
   rw [e2]at his
   simp only [if_neg hi]
   rw [if_neg (by omega)]
   go_enter Tryz.func247,Tryz.ntmps247
   go_wp2_with (first
    | (go_at_call 119;refine his.mono ?_;rintro e u ⟨rfl,rfl⟩))
   go_returns
   exact⟨rfl,R,hA,hqA,sA.mono (fun x hx=>hx.elim),Grew.refl _ _ _⟩
set_option maxRecDepth 100000 in
set_option maxHeartbeats 1000000 in
theorem Z3g {F:Nat→Prop} {w:World} {g:Nat} {sp:Value} {S:DS} (h:Disk w g sp S F) {a:Option Addr} {n c:Nat} {l:List Blk} (hl:Bls w a n c l) (hlF:∀ x:Addr,0 < n→a=some x→¬F x.block):
 Calls Tryz.prog 39 #[.pointer (some ⟨g,0,none⟩), .slice a n c] w fun e w'=>e= .returned (.int .i64 (Z4j S l))∧Disk w' g sp (S.load l) F∧Stp F w w':=by
 obtain⟨m1,m2,f,hd,hm⟩:=h
 have hok:=hd.ok
 have n2:=hok.n2
 have c0:=hd.c0
 have hlen:=hl.len
 unfold DS.load Z4j
 by_cases he:l.length=S.n
 · rw [if_pos he,if_pos he]
   have hn:n=S.n:=by omega
   subst hn
   have start:Disk w g sp (S.part (stOf l) (lftD 0)) F:=by rw [Zbe];exact⟨m1,m2,f,hd,hm⟩
   go_enter Tryz.func39,Tryz.ntmps39
   go_wp2_with fail
   clear hd hm c0
   go_loopw [18] (fun i wr=>∃ (k:Nat),k≤S.n∧i= .int .i64 k∧Disk wr g sp (S.part (stOf l) (lftD k)) F∧Stp F w wr) (fun i _=>S.n - (intOf i).toNat)
   case atStart=>exact⟨0,Nat.zero_le _,rfl,start,Stp.refl _ _⟩
   case round=>
    clear start
    obtain⟨k,hkn,rfl,hD,kw⟩:=hrel
    by_cases hlt:k < S.n
    · have i1:(0:Int)≤(k:Int):=by omega
      have i2:(k:Int) < (S.n:Int):=by omega
      obtain⟨b,o,rfl,hc⟩:=hl.cell (by omega)
      have hbF:¬F b:=hlF ⟨b,o,none⟩ (by omega) rfl
      have hr:wr.rangeAt b (o+k * 64) (l.getD k Blk.zero).cs:=kw.range (hc k hlt) hbF
      have hX:Hid (stOf l k=l.getD k Blk.zero):=Zdr l k
      clear hc
      obtain⟨X,hXe⟩:∃ X,l.getD k Blk.zero=X:=⟨_,rfl⟩
      rw [hXe]at hr hX
      clear hXe
      have hr1:=World.rangeAt_alloc hr (.cells Blk.zero.cs.toArray 64)
      obtain⟨m1,m2,f,hd,hm⟩:=hD
      have sA:Stp (fun _=>False) wr (wr.alloc (.cells X.cs.toArray 64)):=Stp.of_alloc _ _ _
      have hset:=Z85 (hd.step sA (fun _ _=>id)) (hm.step sA id) k ⟨by omega,by show(k:Int) < (S.n:Int);omega⟩ X
      have hF1:=hd.f1
      have hF2:=hd.f2
      go_wp2_with (first
       | (refine Z2o (by rfl) _ (by rfl) b (o+k * 64) (by rfl) X hr ?_)
       | (refine Z2f (by rfl) (by rfl) ?_)
       | (refine Z23 (by rfl) _ _ (by rfl) _ _ (by rfl) X (by rfl) (Z21 wr) ?_;rw [Z1k])
       | (refine Z2o (by rfl) _ (by rfl) wr.heap.size 0 (by rfl) X (Z0v wr _ _) ?_)
       | (go_at_call 101;refine hset.mono ?_;rintro e u1 ⟨rfl,hd1,hm1,k1⟩))
      rw [← hX.out]at hd1
      rw [Zhf,Zbd]at hd1
      have kS:=(kw.trans (sA.mono (fun x hx=>hx.elim))).trans (k1.mono (F':=F) (fun x hx=> .inl (by rcases hx with rfl | rfl;exact hF1;exact hF2)))
      clear hd hm hset hr hr1 sA k1
      go_roundw
      case rel=>exact⟨k+1,by omega,by go_num,⟨m1,m2,_,hd1,hm1⟩,kS⟩
      case measure=>simp [intOf];omega
    · obtain rfl:k=S.n:=by omega
      rw [Zd6 hok (stOf l) (fun j hj=>Zds he j hj)]at hD
      go_wp2_with fail
      go_returns
      exact⟨rfl,hD,kw⟩
 · rw [if_neg he,if_neg he]
   have hn:¬(n:Int)=(S.n:Int):=by omega
   go_enter Tryz.func39,Tryz.ntmps39
   go_wp2_with fail
   go_returns
   exact⟨rfl,⟨m1,m2,f,hd,hm⟩,Stp.refl _ _⟩
set_option maxRecDepth 100000
def Zca (S:DS) (p:PS) (i:Int):PS:=if S.inn i then p.use else p
theorem Zkh (S:DS) (p:PS) (i:Int):useP S (some p) i=some (Zca S p i):=by unfold useP Zca;split<;>rfl
theorem Zde {p:PS} {k:Nat} (h:okAt p k) (S:DS) (i:Int):rRes S (ref p) i=Z0b S (some p) i:=by
 unfold rRes Z0b;rw [Zfm h];rfl
theorem Zn6 {p:PS} {k:Nat} (h:okAt p k) (S:DS) (i:Int):rUse S (ref p) i=ref (Zca S p i):=by
 unfold rUse Zca;split
 · exact Zfn h
 · rfl
theorem Zhr {p:PS} {k:Nat} (h:okAt p k) (S:DS) (i:Int) (b:Blk):S.rwrite (ref p) i b=S.write (some p) i b:=by
 unfold DS.rwrite DS.write;rw [Zde h]
end Go.Proofs.YtogdffonjhghcaaGreatDoor
