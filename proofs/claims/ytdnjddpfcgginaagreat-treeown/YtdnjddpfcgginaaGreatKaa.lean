/-
  Texts of my own, joined: no statement is proved here.
-/
import Derived.OrdersHeld
import Derived.WalkKit
import Derived.ProofKit
import Derived.OpenShut
import Derived.Handy
import Derived.Outline
import Derived.ShutString
import Derived.ChangeOld
import Derived.Below
import Derived.Laws.BitsAllLaws
import Derived.Laws.BytesArg
import Derived.WalkSpells
import Derived.WalkLawsBesides
import Derived.Deep.QuietTactic
import Derived.BigQuiet
import Derived.Deep.RegionHeld3
import Derived.Deep.DrawnRows
import Derived.Deep.Matrix
import Derived.Deep.AppendLies
import Derived.Laws.OwnMore
import Derived.Deep.MidRow
import Derived.Deep.WholeRow
import Derived.Maps.RangeWalk
import Derived.Stop.BytesEq
import Derived.Deep.SlicePairs
import Derived.Test.YtdnjddpfcgginaaGreatRows
import Derived.OrdersHeld
import Derived.Deep.RegionHeld
set_option linter.unusedSimpArgs false
set_option linter.unusedVariables false
namespace Go.Proofs.YtdnjddpfcgginaaGreat
open Go.ChangeShapes Go.WideShapes Go.ChangeAt Go.RowKit
theorem zp (a:Act) (i:Tmp) (v:Value):a.put (some i) v= { a with tmps:=a.tmps.setIfInBounds i v} :=rfl
theorem zq {α:Type} (l:List α) (i:Nat) (x:α):l.toArray.setIfInBounds i x=(l.set i x).toArray:=List.setIfInBounds_toArray ..
theorem zr {α:Type} (x y:α) (l:List α):(x::l).set 0 y=y::l:=rfl
theorem zn (a:Act) (v:Value):a.put none v=a:=rfl
theorem zs {α:Type} (x y:α) (l:List α) (n:Nat):(x::l).set (n+1) y=x::l.set n y:=rfl
theorem tk {P:Program} {md:Region.Mode} {ops:Array Oper} {Q:Exit→Act→World→Prop} {S:World→Prop} {i:Nat} {oi:Oper} {v:Value} {fuel:Nat} {listed:Array Bool} {a:Act} {w:World} (hi:ops[i]? =some oi) (hy:YieldsIf P ops S oi v a) (hS:S w) (h:wpAnyH P md ops Q S fuel (listed.setIfInBounds i true) (a.put oi.dst v) w)
 (hs:Region.noSelect ops=true:=by kernel_rfl) (hf:Region.free md ops listed i=true:=by kernel_rfl) (hr:(Region.ready md ops listed).contains i=true:=by kernel_rfl) (hQ:∀ c a w,Q (.panic c) (a.put oi.dst v) w→Q (.panic c) a w:=by exact fun _ _ _ h=>h):wpAnyH P md ops Q S (fuel+1) listed a w:=
 wpAnyH_take hi hs hf hr hQ hy hS h
theorem z:(∀ (a:Act) (i:Tmp) (v:Value),a.put (some i) v= { a with tmps:=a.tmps.setIfInBounds i v})∧(∀ (a:Act) (v:Value),a.put none v=a)∧(∀ (α:Type) (l:List α) (i:Nat) (x:α),l.toArray.setIfInBounds i x=(l.set i x).toArray)∧(∀ (α:Type) (x y:α) (l:List α),(x::l).set 0 y=y::l)∧(∀ (α:Type) (x y:α) (l:List α) (n:Nat),(x::l).set (n+1) y=x::l.set n y):=
 ⟨zp,zn,fun _=>zq,fun _=>zr,fun _=>zs⟩
theorem gi {ops:Array Oper} {i:Nat} {o:Oper} {r:List Oper} (h:ops.toList.drop i=o::r):ops[i]? =some o:=by
 have e:(ops.toList.drop i)[0]? =some o:=by rw [h];rfl
 rw [List.getElem?_drop,Nat.add_zero,Array.getElem?_toList]at e;exact e
theorem tm {P:Program} {md:Region.Mode} {ops:Array Oper} {Q:Exit→Act→World→Prop} {S:World→Prop} {oi:Oper} {r:List Oper} {fuel:Nat} {listed:Array Bool} {a:Act} {w:World} (i:Nat) (v:Value) (hi:ops.toList.drop i=oi::r) (hy:YieldsIf P ops S oi v a) (h:wpAnyH P md ops Q S fuel (listed.setIfInBounds i true) (a.put oi.dst v) w)
 (hS:S w:=by assumption) (hs:Region.noSelect ops=true:=by kernel_rfl) (hf:Region.free md ops listed i=true:=by kernel_rfl) (hr:(Region.ready md ops listed).contains i=true:=by kernel_rfl) (hQ:∀ c a w,Q (.panic c) (a.put oi.dst v) w→Q (.panic c) a w:=by exact fun _ _ _ h=>h):wpAnyH P md ops Q S (fuel+1) listed a w:=
 wpAnyH_take (gi hi) hs hf hr hQ hy hS h
theorem tl {P:Program} {md:Region.Mode} {ops:Array Oper} {Q:Exit→Act→World→Prop} {S:World→Prop} {oi:Oper} {r:List Oper} {fuel:Nat} {listed:Array Bool} {a:Act} {w:World} (i:Nat) (v:Value) (hi:ops.toList.drop i=oi::r) (h:wpAnyH P md ops Q S fuel (listed.setIfInBounds i true) (a.put oi.dst v) w)
 (y:∀ u,S u→(execOp a.eval oi).run P u= .ok (.value v) u:=by intro u hu;go_simp) (hw:Region.wanted oi (yielded ops a.tmps)=true:=by rfl) (hS:S w:=by assumption) (hs:Region.noSelect ops=true:=by kernel_rfl) (hf:Region.free md ops listed i=true:=by kernel_rfl) (hr:(Region.ready md ops listed).contains i=true:=by kernel_rfl) (hQ:∀ c a w,Q (.panic c) (a.put oi.dst v) w→Q (.panic c) a w:=by exact fun _ _ _ h=>h):wpAnyH P md ops Q S (fuel+1) listed a w:=
 wpAnyH_take (gi hi) hs hf hr hQ (Or.inl ⟨hw,y⟩) hS h
theorem rd {P:Program} {md:Region.Mode} {ops:Array Oper} {Q:Exit→Act→World→Prop} {S:World→Prop} {fuel:Nat} {listed:Array Bool} {a:Act} {w:World} {o:Oper} {r:List Oper} (i:Nat) (hi:ops.toList.drop i=o::r)
 (h:∀ K':Act→World→Prop,Shut (∀ a w,S w→(S w→wpAnyH P md ops Q S fuel (listed.setIfInBounds i true) a w)→K' a w)→if Region.wanted o (yielded ops a.tmps)=true then Oper.wp P o a w K' Q else K' (a.put o.dst undef) w) (hr:Region.ready md ops listed= [i]:=by kernel_rfl):wpAnyH P md ops Q S (fuel+1) listed a w:=
 wpAnyH_ready hr (by simp) (AllReadyH.cons (gi hi) h AllReadyH.nil)
end Go.Proofs.YtdnjddpfcgginaaGreat
namespace Go.Proofs.YtdnjddpfcgginaaGreat
open Go.ChangeShapes Go.WideShapes Go.ChangeAt Go.RowKit
structure Bs (w:World) (a:Option Addr) (n c:Nat) (l:List Int):Prop where
 len:l.length=n
 le:n≤c
 cap:c≤maxLen
 nil:a=none→c=0
 byte:∀ x ∈ l,0≤x∧x≤255
 cell:0 < n→∃ b o,a=some ⟨b,o,none⟩∧∀ i,i < n→w.cell? ⟨b,o+i,none⟩=some (.int .u8 (l.getD i 0))
theorem Z8j (w:World) (k:Nat):Below w.heap.size w (w.drewN k):=⟨rfl,rfl,rfl,Nat.le_refl _,fun _ _=>rfl⟩
theorem Zg2 {B B':Nat} {a b c:World} (h:Below B a b) (k:Below B' b c) (hB:B≤B'):Below B a c:=h.trans (k.mono hB)
theorem Bs.convert {P:Program} {w:World} {a:Option Addr} {n c:Nat} {l:List Int} (h:Bs w a n c l) (src e dst:TypeId)
 (hs:P.underlying src=some (.slice e)) (he:P.underlying e=some (.int .u8)) (hd:P.underlying dst=some .string):
 (convert src dst (.slice a n c)).run P w= .ok (.string (strOfNums l)) w:=by
 rcases Nat.eq_zero_or_pos n with hn | hn
 · subst hn
   obtain rfl:l= []:=List.eq_nil_of_length_eq_zero h.len
   rw [run_convert_bytes_string w src dst e _ 0 c hs he hd]
   cases a<;>simp [Conv.bytesToString,loadCells]
   all_goals rfl
 · obtain⟨b,o,rfl,hc⟩:=h.cell hn
   exact run_convert_bytes_arg (P:=P) w src e hs he b o n c l h.len hc dst hd
theorem Bs.nilSlice (w:World):Bs w none 0 0 []:=⟨rfl,Nat.le_refl _,by decide,fun _=>rfl,(fun _ h=>by cases h),fun h=>absurd h (by omega)⟩
def p2 (i:Nat):Int:=2 ^ (i % 8)
def bitB (l:List Int) (i:Nat):Bool:=l.getD (i / 8) 0 / p2 i % 2==1
def cnt (l:List Int):Nat→Int
 | 0=>0
 | m+1=>cnt l m+if bitB l m then 1 else 0
def fz (l:List Int):Nat→Nat→Int
 | 0,_=> -1
 | f+1,i=>if bitB l i then fz l f (i+1)else i
theorem Zfp {w:World} {base:Nat} {e:TypeId} {v:Value} {n:Nat} {l:List Int} (h:w.ownsRow base e 1 v n (l.map (Value.int .u8))) (hl:∀ x ∈ l,0≤x∧x≤255):
 ∃ a c,v= .slice a n c∧Bs w a n c l:=by
 obtain⟨h1,h2⟩:=h
 have hlen:l.length=n:=by simpa using h1
 rcases h2 with⟨rfl,rfl⟩ | ⟨g,cap,cur,rfl,hb,hg,hle,hm,hs,ht⟩
 · exact⟨none,0,rfl,hlen,Nat.le_refl _,by decide,fun _=>rfl,hl,fun h=>absurd h (by omega)⟩
 · refine⟨_,cap,rfl,hlen,hle,hm,(fun h=>by cases h),hl,fun hn=>⟨g,0,rfl,fun i hi=>?_⟩⟩
   rw [Nat.zero_add,cell_of_row w g i cur e (0,0) hg]
   have e1:(cur.toList.take (n * 1))[i]? =(l.map (Value.int .u8))[i]?:=by rw [ht]
   rw [List.getElem?_take,if_pos (by omega)]at e1
   rw [← Array.getElem?_toList,e1,List.getElem?_map,List.getElem?_eq_getElem (by omega)]
   simp [List.getD_eq_getElem?_getD,List.getElem?_eq_getElem (show i < l.length by omega)]
theorem Z60 {a b:Bool} (h:a=b):Ending.returned (.bool a)= .returned (.bool b):=by rw [h]
theorem Z00q {B:Nat} {W w w':World} (h:Below B W w) (k:Below w.heap.size w w') (hB:B≤W.heap.size):Below B W w':=
 Zg2 h k (Nat.le_trans hB h.size)
theorem Bs.take {w:World} {a:Option Addr} {n c:Nat} {l:List Int} (h:Bs w a n c l) (k:Nat) (hk:k≤n):Bs w a k c (l.take k):=by
 have hl:=h.len
 refine⟨by simp;omega,Nat.le_trans hk h.le,h.cap,h.nil,fun x hx=>h.byte x (List.mem_of_mem_take hx),fun hk0=>?_⟩
 obtain⟨b,o,e,hc⟩:=h.cell (by omega)
 refine⟨b,o,e,fun i hi=>?_⟩
 rw [hc i (by omega),List.getD_eq_getElem?_getD,List.getD_eq_getElem?_getD,List.getElem?_take,if_pos hi]
theorem Bs.cells {w:World} {x:Addr} {n c:Nat} {l:List Int} (h:Bs w (some x) n c l):∀ j u,(l.map (Value.int .u8))[j]? =some u→w.cell? (x.add j)=some u:=by
 intro j u hj
 have hjl:j < l.length:=by have:=(List.getElem?_eq_some_iff.1 hj).1;simpa using this
 obtain⟨b,off,hx,hc⟩:=h.cell (by have:=h.len;omega)
 obtain rfl:x=⟨b,off,none⟩:=by simpa using hx
 rw [Addr.add_lit,hc j (by have:=h.len;omega),← hj,List.getElem?_map,List.getElem?_eq_getElem hjl]
 simp [List.getD_eq_getElem?_getD,List.getElem?_eq_getElem hjl]
theorem Zfz (l:List Int):∀ u ∈ l.map (Value.int .u8),u.oneCell'=true:=by
 intro u hu;obtain⟨x,_,rfl⟩:=List.mem_map.1 hu;rfl
structure Stp (F:Nat→Prop) (w w':World):Prop where
 os:w'.os=w.os
 tape:w'.tape=w.tape
 output:w'.output=w.output
 size:w.heap.size≤w'.heap.size
 block:∀ k,k < w.heap.size→¬F k→w'.heap[k]? =w.heap[k]?
section
variable {F F' : Nat → Prop} {w w' a b c : World}
theorem Stp.refl (F:Nat→Prop) (w:World):Stp F w w:=⟨rfl,rfl,rfl,Nat.le_refl _,fun _ _ _=>rfl⟩
theorem Stp.next (h:Stp F a b) (k:Stp F' b c) (hB:∀ x,F' x→F x∨a.heap.size≤x):Stp F a c:=
 ⟨k.os.trans h.os,k.tape.trans h.tape,k.output.trans h.output,Nat.le_trans h.size k.size,fun i hi hn=>by
   rw [k.block i (Nat.lt_of_lt_of_le hi h.size) (fun hm=>by rcases hB i hm with e | e;exact hn e;omega),h.block i hi hn]⟩
theorem Stp.trans (h:Stp F a b) (k:Stp F b c):Stp F a c:=h.next k fun _ h=> .inl h
theorem Stp.mono (h:Stp F a b) (hB:∀ x,F x→F' x∨a.heap.size≤x):Stp F' a b:=(Stp.refl F' a).next h hB
theorem Stp.of_below (h:Below w.heap.size w w') (F:Nat→Prop):Stp F w w':=⟨h.os,h.tape,h.output,h.size,fun k hk _=>h.block k hk⟩
theorem Stp.of_grown {row:Option Nat} (h:w.grownBy w' row) (hr:∀ x,row=some x→F x∨w.heap.size≤x):Stp F w w':=
 ⟨h.os,h.tape,h.output,h.size,fun k hk hn=>h.block k hk (fun e=>by rcases hr k e.symm with e | e;exact hn e;omega)⟩
theorem Stp.of_alloc (w:World) (o:Obj) (F:Nat→Prop):Stp F w (w.alloc o):=Stp.of_below ((Below.refl _ w).alloc (Nat.le_refl _) o) F
theorem Stp.setCell (h:Stp F a w) {p:Addr} (hp:F p.block∨a.heap.size≤p.block) (u:Value):Stp F a (w.setCell p u):=
 h.next (F':=fun x=>x=p.block) ⟨rfl,rfl,rfl,by simp,fun k hk hn=>Below.heap_setCell w p u k hn⟩ (by rintro x rfl;exact hp)
theorem Z58 (g:Nat):∀ (vs:List Value) (o:Nat) (w:World) (k:Nat),k≠g→(w.setCells g o vs).heap[k]? =w.heap[k]?
 | [],_,_,_,_=>rfl
 | v::r,o,w,k,h=>by rw [World.setCells,Z58 g r (o+1) _ k h,Below.heap_setCell w _ _ _ h]
theorem Z59 (g:Nat):∀ (vs:List Value) (o:Nat) (w:World),(w.setCells g o vs).heap.size=w.heap.size
 | [],_,_=>rfl
 | v::r,o,w=>by rw [World.setCells,Z59 g r (o+1)];simp
theorem Z2u (g:Nat):∀ (vs:List Value) (o:Nat) (w:World),(w.setCells g o vs).os=w.os∧(w.setCells g o vs).tape=w.tape∧(w.setCells g o vs).output=w.output
 | [],_,_=>⟨rfl,rfl,rfl⟩
 | v::r,o,w=>by rw [World.setCells];exact Z2u g r (o+1) _
theorem Stp.of_setCells (w:World) (g o:Nat) (vs:List Value) (hg:F g∨w.heap.size≤g):Stp F w (w.setCells g o vs):=
 ⟨(Z2u g vs o w).1,(Z2u g vs o w).2.1,(Z2u g vs o w).2.2,by rw [Z59];exact Nat.le_refl _,fun k hk hn=>Z58 g vs o w k (fun e=>by subst e;rcases hg with e | e;exact hn e;omega)⟩
theorem Stp.drew (h:Stp F a w):Stp F a w.drew:=⟨h.os,h.tape,h.output,h.size,h.block⟩
theorem Stp.cell (h:Stp F w w') {p:Addr} {v:Value} (hc:w.cell? p=some v) (hp:¬F p.block):w'.cell? p=some v:=by
 rw [World.cell?_of_block (w:=w) (h.block p.block (World.block_lt_of_cell? w p hc) hp)];exact hc
theorem Stp.frozen (h:Stp F w w') {p:Addr} (hl:p.block < w.heap.size) (hp:¬F p.block):w'.frozen? p=w.frozen? p:=
 World.frozen?_of_block (w:=w) (h.block p.block hl hp)
theorem Stp.below {N:Nat} (h:Stp F w w') (hN:N≤w.heap.size) (hB:∀ x,F x→N≤x):Below N w w':=
 ⟨h.os,h.tape,h.output,h.size,fun k hk=>h.block k (by omega) (fun hm=>by have:=hB k hm;omega)⟩
theorem Stp.range (h:Stp F w w') {g o:Nat} {cs:List Value} (hc:w.rangeAt g o cs) (hp:¬F g):w'.rangeAt g o cs:=fun j v hv=>h.cell (hc j v hv) hp
end
def Grew (F F':Nat→Prop) (w w':World):Prop:=∀ x,F' x→F x∨(w.heap.size≤x∧x < w'.heap.size)
theorem Grew.refl (F:Nat→Prop) (w w':World):Grew F F w w':=fun _ h=> .inl h
theorem Grew.trans {F F' F'':Nat→Prop} {a b c:World} (h:Grew F F' a b) (k:Grew F' F'' b c) (h1:a.heap.size≤b.heap.size) (h2:b.heap.size≤c.heap.size):Grew F F'' a c:=fun x hx=>by
 rcases k x hx with e | e
 · rcases h x e with e | e
   · exact .inl e
   · exact .inr ⟨e.1,by omega⟩
 · exact .inr ⟨by omega,e.2⟩
def keyI (k:Int):Lit:= .int .i64 k
theorem Z4c {a b:Int} (h:a≠b):keyI a≠keyI b:=fun e=>h (by injection e)
theorem Z5w (k:Int):WideAt.IsKeyLit (keyI k):=trivial
theorem Zaq (a b:Int):(keyI a).sameKey (keyI b)=decide (a=b):=by
 by_cases h:a=b
 · subst h;rw [WideAt.sameKey_self (Z5w a)];simp
 · rw [Maps.sameKey_ne (Z4c h)];simp [h]
def Z1s (v:Value):Option (DataW Value×List MemPlace):=some (.held v, [])
def Z24 (D:DataW Value) (f:Int→Option Value):Prop:=
 ∀ k,match f k with
   | none=>Maps.has D (keyI k)=false
   | some v=>∀ z,D.atKey (keyI k) z= .held v
theorem Z24.none {D:DataW Value} {f:Int→Option Value} (h:Z24 D f) {k:Int} (e:f k=none):Maps.has D (keyI k)=false:=by have:=h k;rw [e]at this;exact this
theorem Z24.some {D:DataW Value} {f:Int→Option Value} (h:Z24 D f) {k:Int} {v:Value} (e:f k=some v) (z:DataW Value):D.atKey (keyI k) z= .held v:=by have:=h k;rw [e]at this;exact this z
theorem Z24.has {D:DataW Value} {f:Int→Option Value} (h:Z24 D f) (k:Int):Maps.has D (keyI k)=(f k).isSome:=by
 cases e:f k with
 | none=>rw [h.none e];rfl
 | some v=>rw [Maps.has_true_of_atKey (h.some e)];rfl
theorem Z8q:Z24 (.map []) (fun _=>Option.none):=fun k=>rfl
def upd (f:Int→Option Value) (k:Int) (v:Option Value):Int→Option Value:=fun x=>if x=k then v else f x
theorem Z24.put {D:DataW Value} {f:Int→Option Value} (h:Z24 D f) (hD:Maps.IsMap D) (k:Int) (v:Value):Z24 (D.put (keyI k) (.held v)) (upd f k (Option.some v)):=fun x=>by
 unfold upd
 by_cases e:x=k
 · subst e;simp only [if_true];intro z;exact Maps.atKey_put_same hD (Z5w x) _ z
 · rw [if_neg e]
   cases ef:f x with
   | none=>simp only [];rw [Maps.has_put_other (Z4c e)];exact h.none ef
   | some u=>intro z;rw [Maps.atKey_put_other (Z4c e)];exact h.some ef z
theorem Z24.del {D:DataW Value} {f:Int→Option Value} (h:Z24 D f) (k:Int):Z24 (D.del (keyI k)) (upd f k Option.none):=fun x=>by
 unfold upd
 by_cases e:x=k
 · subst e;simp only [if_true];exact Maps.has_del_same
 · rw [if_neg e]
   cases ef:f x with
   | none=>simp only [];rw [Maps.has_del_other (Z4c e)];exact h.none ef
   | some u=>intro z;rw [Maps.atKey_del_other (Z4c e)];exact h.some ef z
def MpI (P:Program) (K:TypeId) (w:World) (b:Nat) (f:Int→Option Value):Prop:=
 ∃ D,w.ownsMap P K Z1s b 4096 D∧Z24 D f
def RgI (P:Program) (K:TypeId) (w:World) (b r:Nat) (f:Int→Option Value) (left:Int→Bool) (cnt:Nat):Prop:=
 ∃ D lf,w.ranges P K Z1s b r 4096 D lf cnt∧Z24 D f∧∀ k,lf (keyI k)=left k
section
variable {P : Program} {K E t : TypeId} {w w' : World} {b r : Nat} {f : Int → Option Value} {left : Int → Bool} {cnt : Nat} {F : Nat → Prop}
theorem MpI.lt (h:MpI P K w b f):b < w.heap.size:=by obtain⟨D,h,_⟩:=h;exact h.lt
theorem MpI.step (h:MpI P K w b f) (k:Stp F w w') (hb:¬F b):MpI P K w' b f:=by
 have hl:=h.lt
 obtain⟨D,⟨es,clock,hh,rest⟩,hR⟩:=h
 exact⟨D,⟨es,clock,(k.block b hl hb).trans hh,rest⟩,hR⟩
theorem RgI.mp (h:RgI P K w b r f left cnt):MpI P K w b f:=by obtain⟨D,lf,h,hR,_⟩:=h;exact⟨D,h.owns,hR⟩
theorem RgI.rlt (h:RgI P K w b r f left cnt):r < w.heap.size:=by obtain⟨D,lf,h,_⟩:=h;exact h.lt
theorem RgI.step (h:RgI P K w b r f left cnt) (k:Stp F w w') (hb:¬F b) (hr:¬F r):RgI P K w' b r f left cnt:=by
 have hl:=h.mp.lt
 have hl2:=h.rlt
 obtain⟨D,lf,⟨es,clock,since,seen,c0,hh,a1,a2,a3,hh2,rest⟩,hR⟩:=h
 exact⟨D,lf,⟨es,clock,since,seen,c0,(k.block b hl hb).trans hh,a1,a2,a3,(k.block r hl2 hr).trans hh2,rest⟩,hR⟩
theorem RgI.left_eq (h:RgI P K w b r f left cnt):w.rangeLeft b r=cnt:=by obtain⟨D,lf,h,_⟩:=h;exact h.left_eq
theorem wfI {k:Int} (h:(Lit.int .i64 k).wf=true) (hk:P.underlying K=some (.int .i64)):keyOf P K (.int .i64 k)=some (keyI k):=Maps.keyOf_int_mk hk h
theorem MpI.made (w:World) (P:Program) (K:TypeId):MpI P K (w.alloc (.map #[] 0)) w.heap.size (fun _=>Option.none):=
 ⟨_,(World.ownsMap_made w P K Z1s).mono (by omega),Z8q⟩
theorem MpI.look (h:MpI P K w b f) (hk:P.underlying K=some (.int .i64)) (ht:P.underlying t=some (.map K E)) {z:Value} (hz:(zeroValue E).run P w= .ok z w) {k:Int} (hw:(Lit.int .i64 k).wf=true):
 (Instr.lookup t (.map (some b)) (.int .i64 k) false).run P w= .ok ((f k).getD z) w:=by
 obtain⟨D,h,hR⟩:=h
 obtain⟨v,ps,h1,h2⟩:=h.lookup (Maps.int_keyed hk) ht hz (zd:= .held z) (zp:= []) rfl (wfI hw hk)
 rw [h1]
 have e:DataW.held v=D.atKey (keyI k) (.held z):=by injection h2 with h2;injection h2
 cases ef:f k with
 | none=>rw [Maps.atKey_of_not_has (hR.none ef)]at e;injection e with e;rw [e];rfl
 | some u=>rw [hR.some ef]at e;injection e with e;rw [e];rfl
theorem few:∀ (n:Nat) (l:List Nat),l.Pairwise (· ≠ ·)→(∀ x ∈ l,x < n)→l.length≤n
 | 0,l,_,h=>by cases l with | nil=>simp | cons a r=>exact absurd (h a (by simp)) (by omega)
 | n+1,l,hp,h=>by
   have e:=few n (l.filter fun x=>decide (x≠n)) (hp.filter _) (fun x hx=>by
    have:=List.mem_filter.1 hx;have:=h x this.1;simp at *;omega)
   have :l.length≤(l.filter fun x=>decide (x≠n)).length+1:=by
    clear e h
    induction l with
    | nil=>simp
    | cons a r ih=>
      obtain⟨h1,h2⟩:=List.pairwise_cons.1 hp
      by_cases ha:a=n
      · subst ha
        have:r.filter (fun x=>decide (x≠a))=r:=List.filter_eq_self.2 (fun x hx=>by simp;exact(h1 x hx).symm)
        simp only [List.filter_cons,ne_eq,not_true_eq_false,decide_false,Bool.false_eq_true,if_false,List.length_cons]
        rw [show(r.filter fun x=>decide (¬x=a))=r from this];omega
      · simp only [List.filter_cons,ne_eq,ha,not_false_eq_true,decide_true,if_true,List.length_cons]
        have:=ih h2;simp only [ne_eq]at this;omega
   omega
theorem Ze8 {D:DataW Value} {n:Nat} (h:w.ownsMap P K Z1s b n D) (hk:P.underlying K=some (.int .i64)) (hR:Z24 D f) (hf:∀ k,(f k).isSome→0≤k∧k < 2048):w.ownsMap P K Z1s b 2048 D:=by
 obtain⟨es,clock,hb,Ft,hs,hD⟩:=h
 refine⟨es,clock,hb,Ft,?_,hD⟩
 have keys:∀ x ∈ es.toList,∃ k:Int,x.key= .int .i64 k∧0≤k∧k < 2048:=fun x hx=>by
  obtain⟨y,hy⟩:=Ft.reads x hx
  obtain⟨k,e1,e2,e3⟩:=Maps.keyOf_int_inv hk (WideElems.rd_key hy)
  refine⟨k,e1,hf k ?_⟩
  rw [← hR.has k,hD]
  exact List.any_eq_true.2 ⟨WideElems.rg P K Z1s x,mem_sorted.2 (List.mem_map.2 ⟨x,hx,rfl⟩),by rw [WideElems.rg_of hy,e2];exact WideAt.sameKey_self (Z5w k)⟩
 have hp:(es.toList.map fun x=>(match x.key with | .int _ k=>k.toNat | _=>0)).Pairwise (· ≠ ·):=by
  rw [List.pairwise_map]
  have hpw:es.toList.Pairwise (fun x y=>x.key≠y.key):=((MapKept.stamped_iff es clock).1 Ft.stamped).2.2
  refine List.Pairwise.imp_of_mem ?_ hpw
  intro x y hx hy hne e
  obtain⟨k,e1,k0,_⟩:=keys x hx
  obtain⟨k',e2,k1,_⟩:=keys y hy
  rw [e1,e2]at e hne
  simp only at e
  exact hne (by rw [show k=k' by omega])
 have :=few 2048 _ hp (fun x hx=>by
  obtain⟨y,hy,rfl⟩:=List.mem_map.1 hx
  obtain⟨k,e1,k0,k1⟩:=keys y hy
  rw [e1];simp only;omega)
 simpa using this
theorem MpI.store (h:MpI P K w b f) (hk:P.underlying K=some (.int .i64)) (ht:P.underlying t=some (.map K E)) (hf:∀ k,(f k).isSome→0≤k∧k < 2048) {k:Int} (hw:(Lit.int .i64 k).wf=true) (v:Value):
 ∃ w',(Instr.mapUpdate t (.map (some b)) (.int .i64 k) v).run P w= .ok () w'∧MpI P K w' b (upd f k (some v))∧w.mapTurned w' b:=by
 obtain⟨D,h,hR⟩:=h
 obtain⟨w',h1,h2,h3⟩:=(Ze8 h hk hR hf).store (Maps.int_keyed hk) ht (by unfold maxLen;omega) (wfI hw hk) (val:=v) (d:= .held v) (ps:= []) rfl
 exact⟨w',h1,⟨_,h2.mono (by omega),hR.put h.isMap k v⟩,h3⟩
theorem MpI.drop (h:MpI P K w b f) (hk:P.underlying K=some (.int .i64)) (ht:P.underlying t=some (.map K E)) {k:Int} (hw:(Lit.int .i64 k).wf=true) (ty:TypeId):
 ∃ w',(Builtin.delete_ #[t,K] ty #[.map (some b), .int .i64 k]).run P w= .ok (.tuple #[]) w'∧MpI P K w' b (upd f k none)∧w.mapTurned w' b:=by
 obtain⟨D,h,hR⟩:=h
 obtain⟨w',h1,h2,h3⟩:=h.drop (Maps.int_keyed hk) ht (wfI hw hk) ty
 exact⟨w',h1,⟨_,h2,hR.del k⟩,h3⟩
theorem MpI.range (h:MpI P K w b f) (hk:P.underlying K=some (.int .i64)) (ht:P.underlying t=some (.map K E)):
 ∃ w' cnt,(Instr.range t (.map (some b))).run P w= .ok (.pointer (some ⟨w.heap.size,0,none⟩)) w'∧RgI P K w' b w.heap.size f (fun k=>(f k).isSome) cnt∧w.grownBy w' none∧w'.heap.size=w.heap.size+1:=by
 obtain⟨D,h,hR⟩:=h
 obtain⟨w',h1,h2,h3,h4⟩:=h.range (Maps.int_keyed hk) ht
 exact⟨w',_,h1,⟨D,_,h2,hR,hR.has⟩,h3,h4⟩
theorem RgI.next (h:RgI P K w b r f left cnt) (hk:P.underlying K=some (.int .i64)) (ty:TypeId):
 ((∀ k,left k=false)∧(Instr.next (.pointer (some ⟨r,0,none⟩)) false ty).run P w= .ok (.tuple #[.bool false]) w)∨
 ∃ k v w' cnt',(Lit.int .i64 k).wf=true∧left k=true∧f k=some v∧(Instr.next (.pointer (some ⟨r,0,none⟩)) false ty).run P w= .ok (.tuple #[.bool true, .int .i64 k,v]) w'∧
   RgI P K w' b r f (fun x=>left x&& !decide (x=k)) cnt'∧cnt' < cnt∧w.grownBy w' (some r)∧w'.heap.size=w.heap.size∧(Instr.entry (.pointer (some ⟨r,0,none⟩))).run P w'= .ok (.tuple #[.int .i64 k,v]) w':=by
 obtain⟨D,lf,h,hR,hl2⟩:=h
 rcases h.next (Maps.int_keyed hk) ty with⟨h0,hl,hrun⟩ | ⟨key,v,kl,y,w',cnt',hkey,hlk,hv,hat,hrun,hrg,hlt,hgr,hsz,hen⟩
 · exact .inl ⟨fun k=>by rw [← hl2];exact hl _,hrun⟩
 · obtain⟨k,rfl,rfl,hw⟩:=Maps.keyOf_int_inv hk hkey
   refine .inr ⟨k,v,w',cnt',hw,by rw [← hl2];exact hlk,?_,hrun,⟨D,_,hrg,hR,fun x=>?_⟩,hlt,hgr,hsz,hen⟩
   · have ey:y.1= .held v:=by injection hv with hv;rw [← hv]
     cases ef:f k with
     | none=>have:=Maps.has_true_of_atKey hat;have h2:=hR.none ef;unfold keyI at h2;rw [this]at h2;cases h2
     | some u=>have:=(hR.some ef .nil).symm.trans (hat .nil);rw [ey]at this;injection this with this;rw [this]
   · show(lf (keyI x)&& !(keyI x).sameKey (keyI k))=(left x&& !decide (x=k));rw [Zaq,hl2]
end
structure Ins (w:World) (a:Option Addr) (n c:Nat) (l:List Int):Prop where
 len:l.length=n
 le:n≤c
 cap:c≤maxLen
 wf:∀ x ∈ l,(Lit.int .i64 x).wf=true
 cell:0 < n→∃ b o,a=some ⟨b,o,none⟩∧∀ i,i < n→w.cell? ⟨b,o+i,none⟩=some (.int .i64 (l.getD i 0))
theorem Ins.nilSlice (w:World):Ins w none 0 0 []:=⟨rfl,Nat.le_refl _,by decide,(fun _ h=>by cases h),fun h=>absurd h (by omega)⟩
theorem Ins.step {F:Nat→Prop} {w w':World} {a:Option Addr} {n c:Nat} {l:List Int} (h:Ins w a n c l) (k:Stp F w w') (hF:∀ x:Addr,0 < n→a=some x→¬F x.block):Ins w' a n c l:=
 ⟨h.len,h.le,h.cap,h.wf,fun hn=>by obtain⟨b,o,rfl,hc⟩:=h.cell hn;exact⟨b,o,rfl,fun i hi=>k.cell (hc i hi) (hF ⟨b,o,none⟩ hn rfl)⟩⟩
theorem Zcd {w:World} {x:Addr} {n c:Nat} {zs:List Int} (hl:n≤c) (hm:c≤maxLen) (hz:n≤zs.length) (hcell:∀ i,i < zs.length→w.cell? (x.add i)=some (.int .i64 (zs.getD i 0))) (hwz:∀ k ∈ zs,(Lit.int .i64 k).wf=true):
 Ins w (some x) n c (zs.take n):=by
 refine⟨by simp;omega,hl,hm,fun k hk=>hwz k (List.mem_of_mem_take hk),fun hn=>?_⟩
 obtain⟨b,o,spot⟩:=x
 have h0:=hcell 0 (by omega)
 have hspot:spot=none:=by simpa [Addr.add]using World.cell?_spot h0
 subst hspot
 refine⟨b,o,rfl,fun i hi=>?_⟩
 have:=hcell i (by omega)
 rw [Addr.add_lit]at this
 rw [this,List.getD_eq_getElem?_getD,List.getD_eq_getElem?_getD,List.getElem?_take,if_pos hi]
def Z1l (ops:Array Oper):Nat→Nat→Nat→Bool
 | 0,_,_=>false
 | n+1,i,j=>i==j||(match ops[i]? with | some o=>o.after.any fun e=>Region.binds .any e&&Z1l ops n e.on j | none=>false)
def Zas (ops:Array Oper) (o:Oper):Bool:=
 ((List.range ops.size).all fun i=>match ops[i]? with | some x=>(x.after.all fun e=>decide (e.on < i))&&(match x.guard with | none=>true | some (j,_)=>decide (j < ops.size)) | none=>false)
 &&(o.after.all fun e=>decide (e.on < ops.size))&&((List.range ops.size).all fun j=>o.after.any fun e=>Region.binds .any e&&Z1l ops ops.size e.on j)
section
variable {P : Program} {ops : Array Oper} {o : Oper} {Q : Exit → Act → World → Prop}
def Rest (P:Program) (ops:Array Oper) (o:Oper) (Q:Exit→Act→World→Prop):Exit→Act→World→Prop
 | .normal,a,w=>wpList P (ops.push o) Q [o] a w
 | e,a,w=>Q e a w
def Shut (ops:Array Oper) (L:Array Bool):Prop:=∀ i x,ops[i]? =some x→L.getD i false=true→∀ e ∈ x.after,Region.binds .any e=true→L.getD e.on false=true
theorem Z6f {L:Array Bool} (h:Shut ops L):∀ (n i j:Nat),Z1l ops n i j=true→L.getD i false=true→L.getD j false=true
 | 0,_,_,h1,_=>by simp [Z1l]at h1
 | n+1,i,j,h1,h2=>by
   unfold Z1l at h1
   rcases Bool.or_eq_true_iff.1 h1 with e | e
   · have:i=j:=by simpa using e
     subst this;exact h2
   · cases hx:ops[i]? with
     | none=>rw [hx]at e;cases e
     | some x=>
       rw [hx]at e
       simp only [Array.any_eq_true]at e
       obtain⟨k,hk,e⟩:=e
       obtain⟨e1,e2⟩:=Bool.and_eq_true_iff.1 e
       exact Z6f h n _ j e2 (h i x hx h2 _ (Array.getElem_mem hk) e1)
theorem Z1v {ops:Array Oper} {L:Array Bool} {i:Nat} :i ∈ Region.ready .any ops L↔∃ x,ops[i]? =some x∧L.getD i true=false∧∀ e ∈ x.after,Region.binds .any e=true→L.getD e.on false=true:=by
 unfold Region.ready
 rw [List.mem_filter,List.mem_range]
 constructor
 · rintro ⟨hi,h⟩
   obtain⟨h1,h2⟩:=Bool.and_eq_true_iff.1 h
   rw [Array.getElem?_eq_getElem hi]at h2
   refine⟨ops[i],Array.getElem?_eq_getElem hi,by simpa using h1,fun e he hb=>?_⟩
   simp only [Option.map_some,Option.getD_some,Array.all_eq_true_iff_forall_mem]at h2
   have:=h2 e he
   rw [hb]at this;simpa using this
 · rintro ⟨x,hx,h1,h2⟩
   refine⟨(Array.getElem?_eq_some_iff.1 hx).1,Bool.and_eq_true_iff.2 ⟨by rw [h1];rfl,?_⟩⟩
   rw [hx]
   simp only [Option.map_some,Option.getD_some,Array.all_eq_true_iff_forall_mem]
   intro e he
   cases hb:Region.binds .any e
   · simp
   · rw [h2 e he hb];simp
theorem Zbx {i:Nat} {a:Act} {w:World} {K K':Act→World→Prop} (hi:i < ops.size) (hg:∀ x,ops[i]? =some x→∀ j b,x.guard=some (j,b)→j < ops.size) (hK:∀ a w,K a w→K' a w) (h:wpOp P ops (Rest P ops o Q) i K a w):wpOp P (ops.push o) Q i K' a w:=by
 have hx:ops[i]? =some ops[i]:=Array.getElem?_eq_getElem hi
 have hp:(ops.push o)[i]? =some ops[i]:=by rw [Array.getElem?_push,if_neg (by omega),hx]
 unfold wpOp at h ⊢
 rw [hx]at h;rw [hp]
 simp only at h ⊢
 have hy:Region.wanted ops[i] (yielded (ops.push o) a.tmps)=Region.wanted ops[i] (yielded ops a.tmps):=by
  unfold Region.wanted
  cases hgd:ops[i].guard with
  | none=>rfl
  | some jb=>
    obtain⟨j,b⟩:=jb
    have hj:=hg _ hx j b hgd
    simp only
    unfold yielded
    rw [Array.getElem?_push,if_neg (by omega)]
 rw [hy]
 split at h
 · rename_i hw
   rw [if_pos hw]
   rcases h with h | ⟨h1,a',w',h2⟩
   · left
     refine Oper.wp_mono hK ?_
     unfold Oper.wp at h ⊢
     generalize (execOp a.eval ops[i]).run P w=r at h ⊢
     cases r with
     | ok n w'=>
       cases n<;>simp only [Oper.upon]at h ⊢<;>first
        | exact h
        | exact Calls.mono h (fun e w'' he=>by
           cases e with
           | returned v=>exact he
           | panicked c=>exact he
           | outgrown=>obtain⟨a',w',h2⟩:=he;exact⟨a',w',h2⟩)
     | halt x w'=>cases x<;>simp only [Oper.upon]at h ⊢<;>exact h
   · exact .inr ⟨h1,a',w',h2⟩
 · rename_i hw;rw [if_neg hw];exact hK _ _ h
theorem Zad (hok:Zas ops o=true):∀ (n:Nat) (L:Array Bool) (a:Act) (w:World),L.size=ops.size→Shut ops L→wpAny P .any ops (Rest P ops o Q) n L a w→wpAny P .any (ops.push o) Q (n+1) (L.push false) a w:=by
 obtain⟨h12,h3⟩:=Bool.and_eq_true_iff.1 hok
 obtain⟨h1,h2⟩:=Bool.and_eq_true_iff.1 h12
 have E:∀ (i:Nat) (x:Oper),ops[i]? =some x→(∀ e ∈ x.after,e.on < i)∧∀ j b,x.guard=some (j,b)→j < ops.size:=fun i x hx=>by
  have:=List.all_eq_true.1 h1 i (List.mem_range.2 (Array.getElem?_eq_some_iff.1 hx).1)
  rw [hx]at this
  obtain⟨t1,t2⟩:=Bool.and_eq_true_iff.1 this
  refine⟨fun e he=>by simpa using Array.all_eq_true_iff_forall_mem.1 t1 e he,fun j b hg=>by rw [hg]at t2;simpa using t2⟩
 have E2:∀ e ∈ o.after,e.on < ops.size:=fun e he=>by simpa using Array.all_eq_true_iff_forall_mem.1 h2 e he
 -- nothing is ready:all are listed
 have allIn:∀ L:Array Bool,L.size=ops.size→Region.ready .any ops L= []→∀ j,j < ops.size→L.getD j false=true:=fun L hL hr j=>by
  induction j using Nat.strongRecOn with
  | _ j ih=>
    intro hj
    refine Decidable.byContradiction fun hn=>?_
    have :j ∈ Region.ready .any ops L:=Z1v.2 ⟨ops[j],Array.getElem?_eq_getElem hj,by
     have hlt:j < L.size:=by omega
     simp [Array.getD,hlt]at hn ⊢;exact hn,fun e he _=>ih e.on ((E j _ (Array.getElem?_eq_getElem hj)).1 e he) (by have:=(E j _ (Array.getElem?_eq_getElem hj)).1 e he;omega)⟩
    rw [hr]at this;cases this
 have getP:∀ (L:Array Bool) (j:Nat) (d:Bool),j < L.size→(L.push false).getD j d=L.getD j d:=fun L j d hj=>by
  simp [Array.getD,hj,Array.getElem_push,show j < L.size+1 by omega]
 -- who is ready
 have rdy:∀ (L:Array Bool) (i:Nat),L.size=ops.size→i ∈ Region.ready .any (ops.push o) (L.push false)→i ∈ Region.ready .any ops L∨(i=ops.size∧∀ e ∈ o.after,Region.binds .any e=true→L.getD e.on false=true):=fun L i hL hi=>by
  obtain⟨x,hx,hl,he⟩:=Z1v.1 hi
  rw [Array.getElem?_push]at hx
  split at hx
  · rename_i e
    injection hx with hx;subst hx
    exact .inr ⟨e,fun e' he' hb=>by have:=he e' he' hb;rw [getP L _ _ (by rw [hL];exact E2 e' he')]at this;exact this⟩
  · have hlt:=(Array.getElem?_eq_some_iff.1 hx).1
    refine .inl (Z1v.2 ⟨x,hx,by rw [getP L i true (by omega)]at hl;exact hl,fun e' he' hb=>?_⟩)
    have:=he e' he' hb
    rw [getP L _ _ (by have:=(E i x hx).1 e' he';omega)]at this;exact this
 have setP:∀ (L:Array Bool) (i:Nat),i < L.size→(L.push false).setIfInBounds i true=(L.setIfInBounds i true).push false:=fun L i hi=>by
  apply Array.ext_getElem?
  intro k
  simp only [Array.getElem?_setIfInBounds,Array.getElem?_push,Array.size_push,Array.size_setIfInBounds]
  by_cases e:i=k
  · subst e;simp [hi,show i≠L.size by omega,show i < L.size+1 by omega]
  · simp [e]
 -- the end
 have fin:∀ (n:Nat) (L:Array Bool) (a:Act) (w:World),L.size=ops.size→(∀ j,j < ops.size→L.getD j false=true)→Rest P ops o Q .normal a w→wpAny P .any (ops.push o) Q (n+1) (L.push false) a w:=fun n L a w hL hall h=>by
  have hN:ops.size ∈ Region.ready .any (ops.push o) (L.push false):=Z1v.2 ⟨o,by simp,by rw [show ops.size=L.size from hL.symm];simp [Array.getD],fun e he _=>by rw [getP L _ _ (by rw [hL];exact E2 e he)];exact hall _ (E2 e he)⟩
  have no:Region.ready .any ops L= []:=by
   refine List.eq_nil_iff_forall_not_mem.2 fun i hi=>?_
   obtain⟨x,hx,hl,_⟩:=Z1v.1 hi
   have hlt:=(Array.getElem?_eq_some_iff.1 hx).1
   have:=hall i hlt
   simp [Array.getD,show i < L.size by omega]at this hl
   rw [this]at hl;cases hl
  refine⟨(fun e=>by rw [e]at hN;cases hN),fun i hi=>?_⟩
  rcases rdy L i hL hi with e | ⟨rfl,_⟩
  · rw [no]at e;cases e
  · have last:Region.ready .any (ops.push o) ((L.push false).setIfInBounds ops.size true)= []:=by
     refine List.eq_nil_iff_forall_not_mem.2 fun k hk=>?_
     obtain⟨x,hx,hl,_⟩:=Z1v.1 hk
     have hlt:=(Array.getElem?_eq_some_iff.1 hx).1
     simp at hlt
     by_cases e:k=ops.size
     · subst e;simp [Array.getD,hL]at hl
     · have h3:=hall k (by omega)
       simp [Array.getD,show k < L.size by omega,show k < L.size+1 by omega,Array.getElem_push,show ¬ops.size=k by omega]at h3 hl
       rw [h3]at hl;cases hl
    have hh:wpList P (ops.push o) Q [o] a w:=h
    unfold wpOp
    rw [show(ops.push o)[ops.size]? =some o by simp]
    simp only
    have go:∀ a w,Q .normal a w→wpAny P .any (ops.push o) Q n ((L.push false).setIfInBounds ops.size true) a w:=fun a w hq=>by
     cases n with
     | zero=>exact⟨last,hq⟩
     | succ n=>exact⟨fun _=>hq,(fun i hi=>by rw [last]at hi;cases hi)⟩
    simp only [wpList]at hh
    split at hh
    · rename_i hw;rw [if_pos hw];exact hh.imp (Oper.wp_mono go) id
    · rename_i hw;rw [if_neg hw];exact go _ _ hh
 intro n
 induction n with
 | zero=>
   intro L a w hL hS h
   exact fin 0 L a w hL (allIn L hL h.1) h.2
 | succ n ih=>
   intro L a w hL hS h
   by_cases hr:Region.ready .any ops L= []
   · exact fin (n+1) L a w hL (allIn L hL hr) (h.1 hr)
   · have notN:¬∀ e ∈ o.after,Region.binds .any e=true→L.getD e.on false=true:=fun hall=>by
      obtain⟨i,hi⟩:=List.exists_mem_of_ne_nil _ hr
      obtain⟨x,hx,hl,_⟩:=Z1v.1 hi
      have hlt:=(Array.getElem?_eq_some_iff.1 hx).1
      have:=List.all_eq_true.1 h3 i (List.mem_range.2 hlt)
      simp only [Array.any_eq_true]at this
      obtain⟨k,hk,e⟩:=this
      obtain⟨e1,e2⟩:=Bool.and_eq_true_iff.1 e
      have:=Z6f hS _ _ i e2 (hall _ (Array.getElem_mem hk) e1)
      simp [Array.getD,show i < L.size by omega]at this hl
      rw [this]at hl;cases hl
     refine⟨fun e=>?_,fun i hi=>?_⟩
     · obtain⟨i,hi⟩:=List.exists_mem_of_ne_nil _ hr
       obtain⟨x,hx,hl,he⟩:=Z1v.1 hi
       have hlt:=(Array.getElem?_eq_some_iff.1 hx).1
       have:i ∈ Region.ready .any (ops.push o) (L.push false):=Z1v.2 ⟨x,by rw [Array.getElem?_push,if_neg (by omega)];exact hx,by rw [getP L i true (by omega)];exact hl,fun e' he' hb=>by rw [getP L _ _ (by have:=(E i x hx).1 e' he';omega)];exact he e' he' hb⟩
       rw [e]at this;cases this
     · rcases rdy L i hL hi with hi0 | ⟨_,hall⟩
       · obtain⟨x,hx,hl,he⟩:=Z1v.1 hi0
         have hlt:=(Array.getElem?_eq_some_iff.1 hx).1
         rw [setP L i (by omega)]
         refine Zbx hlt (fun y hy=>(E i y hy).2) (fun a w hq=>ih _ a w (by simp [hL]) ?_ hq) (h.2 i hi0)
         intro j y hy hj e' he' hb
         have hjl:=(Array.getElem?_eq_some_iff.1 hy).1
         have hel:=(E j y hy).1 e' he'
         by_cases ej:i=j
         · subst ej
           rw [hx]at hy;injection hy with hy;subst hy
           have:=he e' he' hb
           simp [Array.getD,show e'.on < L.size by omega,show ¬i=e'.on by omega]at this ⊢;exact this
         · have hj':L.getD j false=true:=by simpa [Array.getD,show j < L.size by omega,Array.getElem_setIfInBounds,ej]using hj
           have:=hS j y hy hj' e' he' hb
           by_cases e2:i=e'.on
           · rw [← e2];simp [Array.getD,show i < L.size by omega]
           · simp [Array.getD,show e'.on < L.size by omega,e2]at this ⊢;exact this
       · exact(notN hall).elim
theorem Z0p {S:World→Prop} {id:Nat} {a:Act} {w:World} (ops0:Array Oper) (o:Oper) (hpop:ops.pop=ops0) (hback:ops.back? =some o) (hm:P.follows .mixedOrders=true) (hok:Zas ops0 o=true) (hS:S w.drew)
 (h:S w.drew→wpAnyH P .any ops0 (Rest P ops0 o Q) S ops0.size (Array.replicate ops0.size false) a w.drew):(Code.region id ops true).wp P Q a w:=by
 have hops:ops=ops0.push o:=by
  subst hpop
  apply Array.ext_getElem?
  intro i
  rw [Array.back?_eq_getElem?]at hback
  have hlt:=(Array.getElem?_eq_some_iff.1 hback).1
  rw [Array.getElem?_push,Array.size_pop,Array.getElem?_pop]
  by_cases e:i=ops.size - 1
  · rw [if_pos e,e,hback]
  · rw [if_neg e]
    split
    · rfl
    · exact Array.getElem?_eq_none (by omega)
 subst hops
 refine wp_region_any hm ?_
 have :=Zad (P:=P) (Q:=Q) hok ops0.size (Array.replicate ops0.size false) a w.drew (by simp) (fun i x hx hl=>by
  have:=(Array.getElem?_eq_some_iff.1 hx).1
  simp [Array.getD,this]at hl) (wpAny_of_held _ _ _ _ (h hS))
 rw [Array.size_push,Array.replicate_succ]
 exact this
end
end Go.Proofs.YtdnjddpfcgginaaGreat
