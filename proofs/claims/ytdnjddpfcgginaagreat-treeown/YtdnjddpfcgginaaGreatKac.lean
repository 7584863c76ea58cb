/-
  Texts of my own, joined: no statement is proved here.
-/
import Derived.Laws.CopyOwn
import Derived.Laws.Cover3
import Derived.Laws.ResultCell
import Derived.Deep.RegionHeld3
import Derived.Maps.AppendAt
import Derived.Laws.AppendOwnNone
import Derived.Test.YtdnjddpfcgginaaGreatKab
set_option linter.unusedSimpArgs false
set_option linter.unusedVariables false
namespace Go.Proofs.YtdnjddpfcgginaaGreat
open Go.ChangeShapes Go.WideShapes Go.ChangeAt Go.RowKit
structure Pt where
 id:Int
 at':Int
 off:Int
 data:List Int
 kind:Int
 needs:List Int
 own:Int
 child:Int
 wr:Bool
def wfi (x:Int):Prop:=(Lit.int .i64 x).wf=true
theorem Z22 {x:Int} (h: -9223372036854775808≤x∧x≤9223372036854775807):wfi x:=by
 unfold wfi;simp [Lit.wf,IntKind.min,IntKind.max,IntKind.bits,IntKind.signed];omega
theorem Z28 {x:Int} (h:wfi x): -9223372036854775808≤x∧x≤9223372036854775807:=by
 unfold wfi at h;simp [Lit.wf,IntKind.min,IntKind.max,IntKind.bits,IntKind.signed]at h;omega
def fnd (l:List Pt) (i:Int):Option Pt:=l.find? fun p=>p.id==i
def has (l:List Pt) (i:Int):Bool:=l.any fun p=>p.id==i
def inS (s:Int) (p:Pt):Bool:=p.at'==s&& !p.wr
def wtP (l:List Pt) (s:Int):List Pt:=l.filter (inS s)
def ids (l:List Pt):List Int:=l.map (·.id)
def meet (a b:Pt):Bool:=a.at'==b.at'&&(a.kind != b.kind||(decide (a.off < b.off+(b.data.length:Int))&&decide (b.off < a.off+(a.data.length:Int))))
def held (l:List Pt) (p:Pt):Bool:=p.needs.any (has l)
def rdS (l:List Pt):List Pt→List Pt→List Pt
 | _, []=> []
 | late,p::r=>if held l p||late.any (fun q=>meet q p)then rdS l (late++ [p]) r else p::rdS l late r
def rdy (l:List Pt) (s:Int):List Int:=ids (rdS l [] (wtP l s))
def bhd (l:List Pt) (p:Pt):Bool:=l.any fun q=>decide (q.id < p.id)&& !q.wr&&meet q p
def wE (l:List Pt) (i:Int):Int:=match fnd l i with
 | none=>5
 | some p=>if p.wr||held l p||bhd l p then 23 else 0
theorem Z77 {w:World} {g o:Nat} {t:TypeId} {cur:Array Value} (vs:List Value) (hg:w.heap[g]? =some (.cells cur t (0,0))) (hl:o+vs.length≤cur.size) (h1:∀ v ∈ vs,v.oneCell'=true):
 (w.setCells g o vs).heap[g]? =some (.cells (cur.toList.take o++vs++cur.toList.drop (o+vs.length)).toArray t (0,0)):=by
 have e1:=run_storeCells_cells (P:=Tryz.prog) g o vs 0 w (fun j hj=>by
  rw [cell_of_row w g _ _ _ (0,0) hg,Array.getElem?_eq_getElem (by omega)];rfl) (fun j hj=>by simp [World.frozen?,hg]) h1
 have e2:=run_storeCells_at Tryz.prog g o t vs 0 cur w hg (by omega) h1
 simp only [Nat.add_zero]at e1 e2
 rw [e1]at e2
 injection e2 with _ e2
 rw [e2]
 exact setRow_heap w g _ _ t _ hg
structure Cs (w:World) (g:Nat) (cs:List Value):Prop where
 here:∃ t,w.heap[g]? =some (.cells cs.toArray t (0,0))
 one:∀ v ∈ cs,v.oneCell'=true
section
variable {w w' : World} {g : Nat} {cs : List Value} {F : Nat → Prop}
theorem Cs.lt (h:Cs w g cs):g < w.heap.size:=by
 obtain⟨⟨t,h⟩,_⟩:=h
 exact(Array.getElem?_eq_some_iff.1 h).1
theorem Cs.step (h:Cs w g cs) (k:Stp F w w') (hg:¬F g):Cs w' g cs:=by
 have hl:=h.lt
 obtain⟨⟨t,h⟩,h1⟩:=h
 exact⟨⟨t,by rw [k.block g hl hg];exact h⟩,h1⟩
theorem Cs.later (h:Cs w g cs) (k:Below w.heap.size w w'):Cs w' g cs:=h.step (Stp.of_below k (fun _=>False)) id
theorem Cs.cell (h:Cs w g cs) (i:Nat) (v:Value) (hi:cs[i]? =some v):w.cell? ⟨g,i,none⟩=some v:=by
 obtain⟨⟨t,h⟩,_⟩:=h
 rw [cell_of_row w g i _ t (0,0) h,List.getElem?_toArray];exact hi
theorem Cs.frozen (h:Cs w g cs) (i:Nat):w.frozen? ⟨g,i,none⟩=false:=by
 obtain⟨⟨t,h⟩,_⟩:=h
 simp [World.frozen?,h]
theorem Cs.range (h:Cs w g cs):w.rangeAt g 0 cs:=fun j v hv=>by
 rw [Nat.zero_add];exact h.cell j v hv
theorem Cs.there (h:Cs w g cs):w.there g 0 cs.length:=fun j hj=>by
 refine⟨?_,h.frozen _⟩
 rw [Nat.zero_add,h.cell j _ (List.getElem?_eq_getElem hj)];rfl
theorem Cs.made (w:World) (cs:List Value) (t:TypeId) (h1:∀ v ∈ cs,v.oneCell'=true):Cs (w.alloc (.cells cs.toArray t)) w.heap.size cs:=⟨⟨t,heap_alloc_new w _⟩,h1⟩
theorem Cs.set (h:Cs w g cs) (i:Nat) (v:Value) (hv:v.oneCell'=true):Cs (w.setCell ⟨g,i,none⟩ v) g (cs.set i v):=by
 obtain⟨⟨t,h⟩,h1⟩:=h
 refine⟨⟨t,?_⟩,fun x hx=>?_⟩
 · rw [setCell_eq_setRow w g i _ t (0,0) _ h,setRow_heap w g _ _ t _ h]
   simp
 · rcases List.mem_or_eq_of_mem_set hx with hx | rfl
   · exact h1 x hx
   · exact hv
theorem Cs.setCells (h:Cs w g cs) (o:Nat) (vs:List Value) (hl:o+vs.length≤cs.length) (h1:∀ v ∈ vs,v.oneCell'=true):Cs (w.setCells g o vs) g (cs.take o++vs++cs.drop (o+vs.length)):=by
 obtain⟨⟨t,h⟩,h2⟩:=h
 have:=Z77 vs h (by simpa using hl) h1
 refine⟨⟨t,by simpa using this⟩,fun v hv=>?_⟩
 rcases List.mem_append.1 hv with hv | hv
 · rcases List.mem_append.1 hv with hv | hv
   · exact h2 v (List.mem_of_mem_take hv)
   · exact h1 v hv
 · exact h2 v (List.mem_of_mem_drop hv)
end
structure Srt (T:TypeId) (n:Nat) (z:List Value):Prop where
 und:∃ d,Tryz.prog.underlying T=some d∧d.isRow=true
 size:(Tryz.prog.info? T).map (·.size)=some n
 zero:∀ w,(zeroValue T).run Tryz.prog w= .ok (.agg z.toArray) w
 len:z.length=n
 one:∀ v ∈ z,v.oneCell'=true
theorem Z44 {T n:Nat} {z:List Value} (hT:Srt T n z) {w:World} {g:Nat} {cs:List Value} (h:Cs w g cs) (hl:cs.length=n):(loadVar T ⟨g,0,none⟩).run Tryz.prog w= .ok (.agg cs.toArray) w:=by
 obtain⟨d,h1,h2⟩:=hT.und
 exact run_loadVar_mid w g 0 _ cs _ h.range h1 h2 (by rw [hT.size];simp [hl])
theorem Cs.setAll {w:World} {g:Nat} {cs:List Value} (h:Cs w g cs) (cs':List Value) (hl:cs'.length=cs.length) (h1:∀ v ∈ cs',v.oneCell'=true):Cs (w.setCells g 0 cs') g cs':=by
 have:=h.setCells 0 cs' (by omega) h1
 have e:cs.take 0++cs'++cs.drop (0+cs'.length)=cs':=by rw [Nat.zero_add,hl];simp
 rwa [e]at this
theorem Z6h {T n:Nat} {z:List Value} (hT:Srt T n z) {w:World} {g:Nat} {cs:List Value} (h:Cs w g cs) (hl:cs.length=n) (cs':List Value) (hl':cs'.length=n) (h1:∀ v ∈ cs',v.oneCell'=true):
 (storeVar T ⟨g,0,none⟩ (.agg cs'.toArray)).run Tryz.prog w= .ok () (w.setCells g 0 cs'):=
 run_storeVar_mid w g 0 _ cs'.toArray (by have:=h.there;simpa [hl,hl']using this) (by rw [hT.size];simp [hl']) (all_oneCell_toArray h1)
section
variable {ops : Array Oper} {rest : List Oper} {o : Oper} {a : Act} {w : World} {Q : Exit → Act → World → Prop}
theorem Z1i (T n:Nat) (z:List Value) (hT:Srt T n z) (hw:Region.wanted o (yielded ops a.tmps)=true) (ho:o.op= .alloc T)
 (h:∀ g w',w.heap.size≤g→g < w'.heap.size→Cs w' g z→Below w.heap.size w w'→wpList Tryz.prog ops Q rest (a.put o.dst (.pointer (some ⟨g,0,none⟩))) w'):wpList Tryz.prog ops Q (o::rest) a w:=by
 refine Z0z hw _ _ ?_ (h w.heap.size (w.alloc (.cells z.toArray T)) (Nat.le_refl _) (by simp) (Cs.made _ _ _ hT.one) ((Below.refl _ _).alloc (Nat.le_refl _) _))
 have :(Instr.alloc T true (.tuple #[])).run Tryz.prog w= .ok (.pointer (some ⟨w.heap.size,0,none⟩)) (w.alloc (.cells z.toArray T)):=by
  unfold Instr.alloc;rw [Sem.run_bind,hT.zero];rfl
 simp only [execOp,ho,Sem.run_bind,this];rfl
theorem Z2m (T:Nat) (hw:Region.wanted o (yielded ops a.tmps)=true) (x:Operand) (ho:o.op= .box T x) (cs:List Value) (hx:a.eval x= .agg cs.toArray) (h1:∀ v ∈ cs,v.oneCell'=true)
 (h:∀ g w',w.heap.size≤g→g < w'.heap.size→Cs w' g cs→Below w.heap.size w w'→wpList Tryz.prog ops Q rest (a.put o.dst (.pointer (some ⟨g,0,none⟩))) w'):wpList Tryz.prog ops Q (o::rest) a w:=by
 refine Z0z hw _ _ ?_ (h w.heap.size (w.alloc (.cells cs.toArray T)) (Nat.le_refl _) (by simp) (Cs.made _ _ _ h1) ((Below.refl _ _).alloc (Nat.le_refl _) _))
 have :(Instr.box T (.agg cs.toArray)).run Tryz.prog w= .ok (.pointer (some ⟨w.heap.size,0,none⟩)) (w.alloc (.cells cs.toArray T)):=by
  simp [Instr.box,newVar,Value.cells,go_sem]
 simp only [execOp,ho,hx,Sem.run_bind,this];rfl
theorem Z0k (T n:Nat) (z:List Value) (hT:Srt T n z) (hw:Region.wanted o (yielded ops a.tmps)=true) (x:Operand) (ho:o.op= .load T x) (g:Nat) (hx:a.eval x= .pointer (some ⟨g,0,none⟩)) (cs:List Value) (hR:Cs w g cs) (hl:cs.length=n)
 (h:wpList Tryz.prog ops Q rest (a.put o.dst (.agg cs.toArray)) w):wpList Tryz.prog ops Q (o::rest) a w:=by
 refine Z0z hw _ _ ?_ h
 simp [execOp,ho,hx,Instr.loadAt,Instr.sureAddr,Z44 hT hR hl]
theorem Z1e (T n:Nat) (z:List Value) (hT:Srt T n z) (hw:Region.wanted o (yielded ops a.tmps)=true) (x y:Operand) (ho:o.op= .store T x y) (g:Nat) (hx:a.eval x= .pointer (some ⟨g,0,none⟩)) (cs':List Value) (hy:a.eval y= .agg cs'.toArray) (hl':cs'.length=n) (h1:∀ v ∈ cs',v.oneCell'=true) (cs:List Value) (hR:Cs w g cs) (hl:cs.length=n)
 (h:∀ w',Cs w' g cs'→Stp (fun x=>x=g) w w'→wpList Tryz.prog ops Q rest (a.put o.dst undef) w'):wpList Tryz.prog ops Q (o::rest) a w:=by
 refine Z4f hw _ ?_ (h (w.setCells g 0 cs') (hR.setAll cs' (by omega) h1) (Z3a _ _ _ _))
 simp only [execOp,ho,hx,hy,Instr.storeAt,Instr.sureAddr,Sem.run_bind,Sem.run_pure,Result.andThen_ok]
 rw [Z6h hT hR hl cs' hl' h1];rfl
theorem Zc2 (T:Nat) (hw:Region.wanted o (yielded ops a.tmps)=true) (ho:o.op= .makeMap T none)
 (h:∀ b w',w.heap.size≤b→MpI Tryz.prog 3 w' b (fun _=>none)→Below w.heap.size w w'→wpList Tryz.prog ops Q rest (a.put o.dst (.map (some b))) w'):wpList Tryz.prog ops Q (o::rest) a w:=by
 refine Z0z hw _ _ ?_ (h w.heap.size (w.alloc (.map #[] 0)) (Nat.le_refl _) (MpI.made w _ _) ((Below.refl _ _).alloc (Nat.le_refl _) _))
 have:(Instr.makeMap T none).run Tryz.prog w= .ok (.map (some w.heap.size)) (w.alloc (.map #[] 0)):=rfl
 simp [execOp,ho,this]
end
theorem Z7d:Tryz.prog.underlying 3=some (.int .i64):=by kernel_rfl
theorem MpI.later {P:Program} {K:TypeId} {w w':World} {b:Nat} {f:Int→Option Value} (h:MpI P K w b f) (k:Below w.heap.size w w'):MpI P K w' b f:=h.step (Stp.of_below k (fun _=>False)) id
section
variable {ops : Array Oper} {o : Oper} {a : Act} {w : World} {S : World → Prop} {K : Act → World → Prop} {Q : Exit → Act → World → Prop} {E : Prop}
theorem Z30 (T n:Nat) (z:List Value) (hT:Srt T n z) (hw:Region.wanted o (yielded ops a.tmps)=true) (x:Operand) (ho:o.op= .load T x) (g:Nat) (hx:a.eval x= .pointer (some ⟨g,0,none⟩)) (cs:List Value) (hl:cs.length=n) (hS:∀ w,S w→Cs w g cs):
 YieldsIf Tryz.prog ops S o (.agg cs.toArray) a:=by
 obtain⟨d,h1,h2⟩:=hT.und
 exact yieldsIf_load_mid hw T x ho g 0 hx cs _ (fun w h=>(hS w h).range) h1 h2 (by rw [hT.size];simp [hl])
end
section
variable {fn : Func} {p u v : Tmp} {tmps : Array Value} {w : World} {g T n : Nat} {z cs : List Value} {x y : Value}
theorem Z0d (hT:Srt T n z) (h:fn.results=#[.cell p T, .tmp u]) (hp:tmps.getD p undef= .pointer (some ⟨g,0,none⟩)) (hu:tmps.getD u undef=x) (hR:Cs w g cs) (hl:cs.length=n):(results fn tmps).run Tryz.prog w= .ok (.tuple #[.agg cs.toArray,x]) w:=by
 have hp':tmps[p]?.getD undef= .pointer (some ⟨g,0,none⟩):=by simpa using hp
 have hu':tmps[u]?.getD undef=x:=by simpa using hu
 simp [results,h,hp',hu',asAddr,Z44 hT hR hl]
end
section
variable {ops : Array Oper} {rest : List Oper} {o : Oper} {a : Act} {w : World} {Q : Exit → Act → World → Prop}
theorem Zdk (T:Nat) (k:IntKind) (hs:∀ w,(sizeOf T).run Tryz.prog w= .ok 1 w) (hw:Region.wanted o (yielded ops a.tmps)=true) (x y:Operand) (ho:o.op= .store T x y) (g i:Nat) (hx:a.eval x= .pointer (some ⟨g,i,none⟩)) (n:Int) (hy:a.eval y= .int k n) (cs:List Value) (hR:Cs w g cs) (hi:i < cs.length)
 (h:∀ w',Cs w' g (cs.set i (.int k n))→Stp (fun x=>x=g) w w'→wpList Tryz.prog ops Q rest (a.put o.dst undef) w'):wpList Tryz.prog ops Q (o::rest) a w:=by
 refine Z4f hw _ ?_ (h (w.setCell ⟨g,i,none⟩ (.int k n)) (hR.set i _ rfl) ((Stp.refl (fun x=>x=g) w).setCell (p:=⟨g,i,none⟩) (.inl rfl) _))
 have hc:=hR.cell i _ (List.getElem?_eq_getElem hi)
 have hf:=hR.frozen i
 simp [execOp,ho,hx,hy,Instr.storeAt,Instr.sureAddr]
 go_simp
theorem Zdi (T m:Nat) (hT:∃ d,Tryz.prog.underlying T=some d∧d.isRow=true) (hs:(Tryz.prog.info? T).map (·.size)=some m) (hw:Region.wanted o (yielded ops a.tmps)=true) (x:Operand) (ho:o.op= .load T x) (g i:Nat) (hx:a.eval x= .pointer (some ⟨g,i,none⟩)) (cs:List Value) (hR:Cs w g cs) (part:List Value) (hp:part=(cs.drop i).take m) (hl:part.length=m)
 (h:wpList Tryz.prog ops Q rest (a.put o.dst (.agg part.toArray)) w):wpList Tryz.prog ops Q (o::rest) a w:=by
 refine Z0z hw _ _ ?_ h
 obtain⟨d,h1,h2⟩:=hT
 have hr:w.rangeAt g i part:=fun j v hv=>by
  subst hp
  have hj:=(List.getElem?_eq_some_iff.1 hv).1
  rw [hl]at hj
  rw [List.getElem?_take,if_pos hj,List.getElem?_drop]at hv
  exact hR.cell (i+j) v hv
 have:(loadVar T ⟨g,i,none⟩).run Tryz.prog w= .ok (.agg part.toArray) w:=run_loadVar_mid w g i _ part _ hr h1 h2 (by rw [hs];simp [hl])
 simp [execOp,ho,hx,Instr.loadAt,Instr.sureAddr,this]
end
section
variable {ops : Array Oper} {o : Oper} {a : Act} {w : World} {K : Act → World → Prop} {Q : Exit → Act → World → Prop} {E : Prop}
theorem Z0t (T n:Nat) (z:List Value) (hT:Srt T n z) (hgd:o.guard=none) (ho:o.op= .alloc T)
 (h:∀ g w',w.heap.size≤g→g < w'.heap.size→Cs w' g z→Below w.heap.size w w'→K (a.put o.dst (.pointer (some ⟨g,0,none⟩))) w'):if Region.wanted o (yielded ops a.tmps)=true then Oper.wp Tryz.prog o a w K Q else E:=by
 have hw:Region.wanted o (yielded ops a.tmps)=true:=by simp [Region.wanted,hgd]
 rw [if_pos hw]
 have hi:(Instr.alloc T true (.tuple #[])).run Tryz.prog w= .ok (.pointer (some ⟨w.heap.size,0,none⟩)) (w.alloc (.cells z.toArray T)):=by
  unfold Instr.alloc;rw [Sem.run_bind,hT.zero];rfl
 have hr:(execOp a.eval o).run Tryz.prog w= .ok (.value (.pointer (some ⟨w.heap.size,0,none⟩))) (w.alloc (.cells z.toArray T)):=by
  simp only [execOp,ho,Sem.run_bind,hi];rfl
 unfold Oper.wp
 rw [hr]
 exact h w.heap.size _ (Nat.le_refl _) (by simp) (Cs.made _ _ _ hT.one) ((Below.refl _ _).alloc (Nat.le_refl _) _)
theorem Z0n (T n:Nat) (z:List Value) (hT:Srt T n z) (hgd:o.guard=none) (x y:Operand) (ho:o.op= .store T x y) (g:Nat) (hx:a.eval x= .pointer (some ⟨g,0,none⟩)) (cs':List Value) (hy:a.eval y= .agg cs'.toArray) (hl':cs'.length=n) (h1:∀ v ∈ cs',v.oneCell'=true) (cs:List Value) (hR:Cs w g cs) (hl:cs.length=n)
 (h:∀ w',Cs w' g cs'→Stp (fun x=>x=g) w w'→K (a.put o.dst undef) w'):if Region.wanted o (yielded ops a.tmps)=true then Oper.wp Tryz.prog o a w K Q else E:=by
 have hw:Region.wanted o (yielded ops a.tmps)=true:=by simp [Region.wanted,hgd]
 rw [if_pos hw]
 have hr:(execOp a.eval o).run Tryz.prog w= .ok .skip (w.setCells g 0 cs'):=by
  simp only [execOp,ho,hx,hy,Instr.storeAt,Instr.sureAddr,Sem.run_bind,Sem.run_pure,Result.andThen_ok]
  rw [Z6h hT hR hl cs' hl' h1];rfl
 unfold Oper.wp
 rw [hr]
 exact h _ (hR.setAll cs' (by omega) h1) (Z3a _ _ _ _)
end
theorem u3:Tryz.prog.underlying 3=some (.int .i64):=by kernel_rfl
section
variable {ops : Array Oper} {rest : List Oper} {o : Oper} {a : Act} {w : World} {Q : Exit → Act → World → Prop}
theorem Zdh {t:TypeId} {b:Nat} {k:Int} {R:World→Prop} (hw:Region.wanted o (yielded ops a.tmps)=true) (x y:Operand) (ho:o.op=Op.call { callee:=Callee.builtin Builtin.delete,args:=#[x,y],argTypes:=#[t,3]})
 (hx:a.eval x= .map (some b)) (hy:a.eval y= .int .i64 k) (hd:∀ ty,∃ w',(Builtin.delete_ #[t,3] ty #[.map (some b), .int .i64 k]).run Tryz.prog w= .ok (.tuple #[]) w'∧R w')
 (h:∀ w',R w'→wpList Tryz.prog ops Q rest (a.put o.dst (.tuple #[])) w'):wpList Tryz.prog ops Q (o::rest) a w:=by
 obtain⟨w',hr,hR⟩:=hd o.type
 refine Z0z hw _ w' ?_ (h w' hR)
 simp [execOp,ho,resolve,invoke,builtin,hx,hy,hr,Result.andThen]
theorem Zag {t:TypeId} {b:Nat} {v:Value} {R:World→Prop} (hw:Region.wanted o (yielded ops a.tmps)=true) (x:Operand) (ho:o.op=Op.range t x)
 (hx:a.eval x= .map (some b)) (hd:∃ w',(Instr.range t (.map (some b))).run Tryz.prog w= .ok v w'∧R w')
 (h:∀ w',R w'→wpList Tryz.prog ops Q rest (a.put o.dst v) w'):wpList Tryz.prog ops Q (o::rest) a w:=by
 obtain⟨w',hr,hR⟩:=hd
 refine Z0z hw _ w' ?_ (h w' hR)
 simp [execOp,ho,hx,hr,Result.andThen]
theorem Zc3 {b r:Nat} {f:Int→Option Value} {left:Int→Bool} {cnt:Nat} (hw:Region.wanted o (yielded ops a.tmps)=true) (x:Operand) (ho:o.op=Op.next x false)
 (hx:a.eval x= .pointer (some ⟨r,0,none⟩)) (h:RgI Tryz.prog 3 w b r f left cnt)
 (h0:(∀ k,left k=false)→wpList Tryz.prog ops Q rest (a.put o.dst (.tuple #[.bool false])) w)
 (h1 :∀ k v w' cnt',(Lit.int .i64 k).wf=true→left k=true→f k=some v→RgI Tryz.prog 3 w' b r f (fun x=>left x&& !decide (x=k)) cnt'→cnt' < cnt→Stp (fun x=>x=r) w w'→w'.heap.size=w.heap.size→
   (Instr.entry (.pointer (some ⟨r,0,none⟩))).run Tryz.prog w'= .ok (.tuple #[.int .i64 k,v]) w'→wpList Tryz.prog ops Q rest (a.put o.dst (.tuple #[.bool true, .int .i64 k,v])) w'):wpList Tryz.prog ops Q (o::rest) a w:=by
 rcases h.next u3 o.type with⟨hl,hr⟩ | ⟨k,v,w',cnt',hk,hl,hf,hr,hR,hc,hg,hs,he⟩
 · refine Z0z hw _ w ?_ (h0 hl)
   simp [execOp,ho,hx,hr,Result.andThen]
 · refine Z0z hw _ w' ?_ (h1 k v w' cnt' hk hl hf hR hc (Stp.of_grown hg (by rintro x e;injection e with e;exact .inl e.symm)) hs he)
   simp [execOp,ho,hx,hr,Result.andThen]
end
theorem Z3q {w w':World} {b:Nat} (h:w.mapTurned w' b):Stp (fun x=>x=b) w w':=Stp.of_grown h.grown (by rintro x e;injection e with e;exact .inl e.symm)
theorem Zcf {w:World} {b:Nat} {f:Int→Option Value} {t E:TypeId} (h:MpI Tryz.prog 3 w b f) (ht:Tryz.prog.underlying t=some (.map 3 E)):
 ∃ w',(Instr.range t (.map (some b))).run Tryz.prog w= .ok (.pointer (some ⟨w.heap.size,0,none⟩)) w'∧∃ cnt,RgI Tryz.prog 3 w' b w.heap.size f (fun k=>(f k).isSome) cnt∧Stp (fun _=>False) w w'∧w'.heap.size=w.heap.size+1:=by
 obtain⟨w',cnt,h1,h2,h3,h4⟩:=h.range u3 ht
 exact⟨w',h1,cnt,h2,Stp.of_grown h3 (by rintro x e;cases e),h4⟩
structure ElT (T e:TypeId) (sz:Nat):Prop where
 und:Tryz.prog.underlying T=some (.slice e)
 inf:∃ z b,(Tryz.prog.info? e).map (fun i=>(i.zero,i.size,i.bytes))=some (some z,sz,b)∧z.cells.size=sz∧b≤128
 pos:0 < sz
def New (B:Nat) (v:Value):Prop:=∀ r,v.ownBlock=some r→B≤r
section
variable {ops : Array Oper} {rest : List Oper} {o : Oper} {a : Act} {w : World} {Q : Exit → Act → World → Prop} {T e : TypeId} {sz n m B : Nat} {xs : List Value} {v : Value}
theorem Z9k (h:w.ownsRow 0 e sz v n xs) (hN:New B v):w.ownsRow B e sz v n xs:=by
 rcases h.2 with⟨e1,e2⟩ | ⟨g,cap,cur,e1,_,e3⟩
 · exact⟨h.1, .inl ⟨e1,e2⟩⟩
 · exact⟨h.1, .inr ⟨g,cap,cur,e1,hN g (by rw [e1];rfl),e3⟩⟩
theorem Z4k (h:w.ownsRow B e sz v n xs):w.ownsRow 0 e sz v n xs:=by
 rcases h.2 with⟨e1,e2⟩ | ⟨g,cap,cur,e1,_,e3⟩
 · exact⟨h.1, .inl ⟨e1,e2⟩⟩
 · exact⟨h.1, .inr ⟨g,cap,cur,e1,Nat.zero_le _,e3⟩⟩
theorem Z4j {w':World} {F:Nat→Prop} (h:w.ownsRow B e sz v n xs) (k:Stp F w w') (hF:∀ r,v.ownBlock=some r→¬F r):w'.ownsRow B e sz v n xs:=by
 refine⟨h.1,?_⟩
 rcases h.2 with h2 | ⟨g',cap,cur,e2,e3,e4,e5⟩
 · exact .inl h2
 · exact .inr ⟨g',cap,cur,e2,e3,by rw [k.block g' (Array.getElem?_eq_some_iff.1 e4).1 (hF g' (by rw [e2];rfl))];exact e4,e5⟩
theorem Z61 {w':World} (h:w.ownsRow B e sz v n xs) (k:Below w.heap.size w w'):w'.ownsRow B e sz v n xs:=Z4j h (Stp.of_below k (fun _=>False)) (fun _ _=>id)
def Apd (w:World) (B:Nat) (e:TypeId) (sz:Nat) (v:Value) (n m:Nat) (xs:List Value) (v':Value) (w':World):Prop:=
 w'.ownsRow 0 e sz v' (n+m) xs∧New B v'∧(v'.ownBlock=v.ownBlock∨(v'.ownBlock=some w.heap.size∧w.heap.size < w'.heap.size))∧Stp (fun x=>v.ownBlock=some x) w w'∧(v'= .slice none 0 0↔v= .slice none 0 0∧m=0)
theorem Z5f (hE:ElT T e sz) (ty:TypeId) (h0:w.ownsRow 0 e sz v n xs) (hN:New B v) (xa:Option Addr) (c:Nat) (news:List Value) (hl:news.length=m * sz) (hnil:xa=none→m=0∧c=0) (hnews:∀ ad,xa=some ad→∀ j u,news[j]? =some u→w.cell? (ad.add j)=some u) (h1:∀ u ∈ news,u.oneCell'=true) (hbig:n+m≤1000000) (hB:B≤w.heap.size):
 ∃ v' w',(Builtin.append_ #[T,T] ty #[v, .slice xa m c]).run Tryz.prog w= .ok v' w'∧Apd w B e sz v n m (xs++news) v' w':=by
 obtain⟨z,b,hi',hz,hb⟩:=hE.inf
 obtain⟨i0,hi,hz0,hz1,hz2⟩:=info_parts hi'
 cases xa with
 | none=>
   obtain⟨rfl,rfl⟩:=hnil rfl
   obtain rfl:news= []:=List.eq_nil_of_length_eq_zero (by rw [hl,Nat.zero_mul])
   have hrun:=run_append_owned_none (P:=Tryz.prog) (w:=w) 0 T ty e i0 sz hE.und hi v n xs h0
   exact⟨v,w,hrun,by simpa using h0,hN, .inl rfl,Stp.refl _ _,by simp⟩
 | some ad=>
   obtain⟨v',w',hr,h2,h3,h4,h5⟩:=run_append_own_at (P:=Tryz.prog) w B T ty e i0 z sz b hE.und hi hz0 hz1 hz2 hz hE.pos v n xs (Z9k h0 hN) ad m c news hl (hnews ad rfl) h1 (by unfold maxLen;omega) (Nat.le_trans (Nat.mul_le_mul hbig hb) (by omega)) hB
   have hlt:=h2.lt
   refine⟨v',w',hr,Z4k h2,fun r hr=>(hlt r hr).1,?_,Stp.of_grown h3 (fun x e=> .inl e),h4⟩
   rcases h5 with e5 | e5
   · exact .inl e5
   · exact .inr ⟨e5,(hlt _ e5).2⟩
theorem Z3c (hE:ElT T e sz) (B:Nat) (hgd:o.guard=none) (s x:Operand) (ho:o.op= .call { callee:= .builtin .append,args:=#[s,x],argTypes:=#[T,T]}) (hs:a.eval s=v) (h0:w.ownsRow 0 e sz v n xs) (hN:New B v) (xa:Option Addr) (c:Nat) (news:List Value) (hx:a.eval x= .slice xa m c) (hl:news.length=m * sz) (hnil:xa=none→m=0∧c=0) (hnews:∀ ad,xa=some ad→∀ j u,news[j]? =some u→w.cell? (ad.add j)=some u) (h1:∀ u ∈ news,u.oneCell'=true) (hbig:n+m≤1000000) (hB:B≤w.heap.size)
 (h:∀ v' w',Apd w B e sz v n m (xs++news) v' w'→wpList Tryz.prog ops Q rest (a.put o.dst v') w'):wpList Tryz.prog ops Q (o::rest) a w:=by
 have hw:Region.wanted o (yielded ops a.tmps)=true:=by simp [Region.wanted,hgd]
 obtain⟨v',w',hr,hA⟩:=Z5f hE o.type h0 hN xa c news hl hnil hnews h1 hbig hB
 refine Z0z hw v' w' ?_ (h v' w' hA)
 simp only [execOp,ho,resolve,invoke,builtin,Sem.run_bind,Sem.run_pure,Result.andThen_ok,List.map_toArray,List.map_cons,List.map_nil,hs,hx,hr]
theorem Zbl {K:Act→World→Prop} {R:Prop} (hE:ElT T e sz) (B:Nat) (hgd:o.guard=none) (s x:Operand) (ho:o.op= .call { callee:= .builtin .append,args:=#[s,x],argTypes:=#[T,T]}) (hs:a.eval s=v) (h0:w.ownsRow 0 e sz v n xs) (hN:New B v) (xa:Option Addr) (c:Nat) (news:List Value) (hx:a.eval x= .slice xa m c) (hl:news.length=m * sz) (hnil:xa=none→m=0∧c=0) (hnews:∀ ad,xa=some ad→∀ j u,news[j]? =some u→w.cell? (ad.add j)=some u) (h1:∀ u ∈ news,u.oneCell'=true) (hbig:n+m≤1000000) (hB:B≤w.heap.size)
 (h:∀ v' w',Apd w B e sz v n m (xs++news) v' w'→K (a.put o.dst v') w'):if Region.wanted o (yielded ops a.tmps)=true then Oper.wp Tryz.prog o a w K Q else R:=by
 have hw:Region.wanted o (yielded ops a.tmps)=true:=by simp [Region.wanted,hgd]
 rw [if_pos hw]
 obtain⟨v',w',hr,hA⟩:=Z5f hE o.type h0 hN xa c news hl hnil hnews h1 hbig hB
 unfold Oper.wp execOp
 simp only [ho,resolve,invoke,builtin,Sem.run_bind,Sem.run_pure,Result.andThen_ok,List.map_toArray,List.map_cons,List.map_nil,hs,hx,hr]
 exact h v' w' hA
end
theorem elB:ElT 29 5 1:=⟨by kernel_rfl,⟨.int .u8 0,1,by kernel_rfl,rfl,by omega⟩,by omega⟩
theorem elI:ElT 55 3 1:=⟨by kernel_rfl,⟨.int .i64 0,8,by kernel_rfl,rfl,by omega⟩,by omega⟩
structure Sv where
 a:Option Addr
 n:Nat
 c:Nat
abbrev Sv.v (s:Sv):Value:= .slice s.a s.n s.c
def Sv.nil:Sv:=⟨none,0,0⟩
def InE (E:Nat→Prop) (s:Sv):Prop:=∀ ad:Addr,s.a=some ad→0 < s.n→E ad.block
theorem InE.nil (E:Nat→Prop):InE E Sv.nil:=fun ad h=>by cases h
theorem InE.mono {E E':Nat→Prop} {s:Sv} (h:InE E s) (k:∀ x,E x→E' x):InE E' s:=fun ad h1 h2=>k _ (h ad h1 h2)
abbrev BsS (w:World) (s:Sv) (l:List Int):Prop:=Bs w s.a s.n s.c l
structure InsS (w:World) (s:Sv) (l:List Int):Prop where
 i:Ins w s.a s.n s.c l
 nl:s.a=none→s.c=0
section
variable {w w' : World} {s : Sv} {l : List Int} {E F : Nat → Prop}
theorem BsS.step (h:BsS w s l) (k:Stp F w w') (he:InE E s) (hE:∀ x,E x→¬F x):BsS w' s l:=by
 refine⟨h.len,h.le,h.cap,h.nil,h.byte,fun hn=>?_⟩
 obtain⟨b,o,e,hc⟩:=h.cell hn
 exact⟨b,o,e,fun i hi=>k.cell (hc i hi) (hE b (he ⟨b,o,none⟩ e hn))⟩
theorem InsS.step (h:InsS w s l) (k:Stp F w w') (he:InE E s) (hE:∀ x,E x→¬F x):InsS w' s l:=
 ⟨h.i.step k (fun x hn e=>hE _ (he x e hn)),h.nl⟩
theorem InsS.later (h:InsS w s l) (k:Below w.heap.size w w'):InsS w' s l:=h.step (E:=fun _=>True) (Stp.of_below k (fun _=>False)) (fun _ _ _=>trivial) (fun _ _=>id)
theorem InsS.nil (w:World):InsS w Sv.nil []:=⟨Ins.nilSlice w,fun _=>rfl⟩
theorem Z0y (w:World):BsS w Sv.nil []:=Bs.nilSlice w
theorem InsS.zero (h:InsS w s l) (e:s.a=none):s.n=0∧s.c=0∧l= []:=by
 have h1:=h.nl e
 have h2:=h.i.le
 have h3:=h.i.len
 exact⟨by omega,h1,List.eq_nil_of_length_eq_zero (by omega)⟩
theorem BsS.cells (h:BsS w s l):∀ ad,s.a=some ad→∀ j u,(l.map (Value.int .u8))[j]? =some u→w.cell? (ad.add j)=some u:=fun ad e j u hu=>by
 have h':Bs w (some ad) s.n s.c l:=by rw [← e];exact h
 exact h'.cells j u hu
theorem BsS.zero (h:BsS w s l) (e:s.a=none):s.n=0∧s.c=0∧l= []:=by
 have h1:=h.nil e
 have h2:=h.le
 have h3:=h.len
 exact⟨by omega,h1,List.eq_nil_of_length_eq_zero (by omega)⟩
end
theorem Za7 {w:World} {v:Value} {l:List Int} {B:Nat} (h:w.ownsRow 0 5 1 v l.length (l.map (Value.int .u8))) (hl:∀ x ∈ l,0≤x∧x≤255) (hN:New B v):∃ s:Sv,v=s.v∧s.n=l.length∧BsS w s l∧InE (fun x=>B≤x∧x < w.heap.size) s:=by
 obtain⟨a,c,rfl,hb⟩:=Zfp h hl
 exact⟨⟨a,l.length,c⟩,rfl,rfl,hb,fun ad e hn=>⟨hN _ (by show Value.ownBlock (.slice a _ _)=_;rw [show a=some ad from e];rfl),(h.lt _ (by show Value.ownBlock (.slice a _ _)=_;rw [show a=some ad from e];rfl)).2⟩⟩
theorem Zfr {w:World} {v:Value} {l:List Int} {B:Nat} (h:w.ownsRow 0 3 1 v l.length (l.map (Value.int .i64))) (hl:∀ x ∈ l,wfi x) (hN:New B v):∃ s:Sv,v=s.v∧s.n=l.length∧InsS w s l∧InE (fun x=>B≤x∧x < w.heap.size) s:=by
 have hlt:=h.lt
 rcases h.2 with⟨rfl,h2⟩ | ⟨g,cap,cur,rfl,_,hg,hle,hm,hs,ht⟩
 · obtain rfl:l= []:=List.eq_nil_of_length_eq_zero h2
   exact⟨Sv.nil,rfl,rfl,InsS.nil w,InE.nil _⟩
 · refine⟨⟨some ⟨g,0,none⟩,l.length,cap⟩,rfl,rfl,⟨⟨rfl,hle,hm,hl,fun hn=>⟨g,0,rfl,fun i hi=>?_⟩⟩,(fun e=>by cases e)⟩,fun ad e hn=>⟨?_,?_⟩⟩
   · rw [Nat.zero_add,cell_of_row w g i _ _ (0,0) hg]
     have h1:(cur.toList.take (l.length * 1))[i]? =(l.map (Value.int .i64))[i]?:=by rw [ht]
     have hi':i < l.length:=hi
     rw [Nat.mul_one,List.getElem?_take,if_pos hi',List.getElem?_map,List.getElem?_eq_getElem hi']at h1
     rw [List.getD_eq_getElem?_getD,List.getElem?_eq_getElem hi']
     simpa using h1
   · injection e with e;subst e;exact hN g rfl
   · injection e with e;subst e;exact(hlt g rfl).2
end Go.Proofs.YtdnjddpfcgginaaGreat
