/-
  Texts of my own, joined: no statement is proved here.
-/
import Derived.Laws.Cover3
import Derived.Test.YtdnjddpfcgginaaGreatRows
import Derived.Laws.RangeAny
import Derived.Laws.IdiomStrings
import Derived.WalkMore
import Derived.ScopeJumps
import Derived.Test.YtdnjddpfcgginaaGreatKaj
set_option linter.unusedSimpArgs false
set_option linter.unusedVariables false
namespace Go.Proofs.YtdnjddpfcgginaaGreat
open Go.ChangeShapes Go.WideShapes Go.ChangeAt Go.RowKit
set_option maxRecDepth 100000
def spC (d:Option Nat) (s:List UInt8) (i:Int):List Value:= [.pointer (d.map fun b=>⟨b,0,none⟩), .string (str s), .int .i64 i]
theorem Z4l (d:Option Nat) (s:List UInt8) (i:Int):∀ v ∈ spC d s i,v.oneCell'=true:=by
 intro v hv;unfold spC at hv;simp at hv;rcases hv with rfl | rfl | rfl<;>rfl
theorem Z1g:Srt 145 3 (spC none [] 0):=
 ⟨⟨_,Tryz.underlying145,rfl⟩,by kernel_rfl,fun w=>(zero_of_info (v:= .agg (spC none [] 0).toArray) (n:=3) (by kernel_rfl)).1 w,rfl,Z4l _ _ _⟩
section
variable {ops : Array Oper} {rest : List Oper} {o : Oper} {a : Act} {w : World} {Q : Exit → Act → World → Prop}
theorem Zdm (hw:Region.wanted o (yielded ops a.tmps)=true) (m x y:Operand) (ho:o.op= .mapUpdate 71 m x y) (b n:Nat) (l:List Ent) (hm:a.eval m= .map (some b)) (s:List UInt8) (hx:a.eval x= .string (str s)) (i:Int) (hy:a.eval y= .int .i64 i) (hM:MpT w b n l) (hl:Srd l) (hn:n < 100000) (hs:s.length≤maxLen) (hi:i≠0)
 (h:∀ w',MpT w' b (n+1) (ptL l s i)→Stp (fun x=>x=b) w w'→wpList Tryz.prog ops Q rest (a.put o.dst undef) w'):wpList Tryz.prog ops Q (o::rest) a w:=by
 obtain⟨w',r1,r2,r3⟩:=hM.store hl hn hs hi
 refine Z4f hw _ ?_ (h w' r2 r3)
 simp [execOp,ho,hm,hx,hy,r1]
theorem Zdg {b:Nat} {s:List UInt8} {R:World→Prop} (hw:Region.wanted o (yielded ops a.tmps)=true) (x y:Operand) (ho:o.op=Op.call { callee:=Callee.builtin Builtin.delete,args:=#[x,y],argTypes:=#[71,9]})
 (hx:a.eval x= .map (some b)) (hy:a.eval y= .string (str s)) (hd:∀ ty,∃ w',(Builtin.delete_ #[71,9] ty #[.map (some b), .string (str s)]).run Tryz.prog w= .ok (.tuple #[]) w'∧R w')
 (h:∀ w',R w'→wpList Tryz.prog ops Q rest (a.put o.dst (.tuple #[])) w'):wpList Tryz.prog ops Q (o::rest) a w:=by
 obtain⟨w',hr,hR⟩:=hd o.type
 refine Z0z hw _ w' ?_ (h w' hR)
 simp [execOp,ho,resolve,invoke,builtin,hx,hy,hr,Result.andThen]
end
theorem Z1b {w:World} {U:Nat→Prop} {g B m n:Nat} {q:Int→Nat} {Z:Tz} {x:Int→Int} (h:Tx w U g q B Z) (hz:Z.okD m n x) (hm:m≤1000) (hB:B≤1000) {d i:Int} (hd:(Z.nd d).k=2) (hk:(Z.nd i).k≠0) (s:List UInt8) (hs:s.length≤10) (c:Int):
 Calls Tryz.prog 97 #[.pointer (some ⟨g,0,none⟩), .agg (spC (some (q d)) s c).toArray, .int .i64 i] w fun e w'=>e= .returned (.tuple #[])∧TxG U g q (B+1) (Z.nam d s i) w w':=by
 obtain⟨tg,mb,ob,nb,sv,H,hU⟩:=h
 have hwf:=Z13 hz hm hk
 have hdk:(Z.nd d).k≠0:=by rw [hd];decide
 have hdl:=hz.live hdk
 have hil:=hz.live hk
 have hi0:i≠0:=by omega
 have hso:=hz.so d
 have hsl:s.length≤maxLen:=by unfold maxLen;omega
 have ek:((Z.put d s i).nd i).k≠0∧((Z.put d s i).nd i).ln=(Z.nd i).ln:=by
  rw [Z0v hdl.2]
  split
  · rename_i e
    have:i=d:=by omega
    subst this;exact⟨hdk,rfl⟩
  · exact⟨hk,rfl⟩
 have hln:=hz.lx i
 go_enter Tryz.func97,Tryz.ntmps97
 go_wp2_with (refine Z2m 145 (by rfl) _ (by rfl) (spC (some (q d)) s c) (by rfl) (Z4l _ _ _) ?_;intro gb w1 z1 z2 r1 b1)
 have H1:=H.later b1
 refine Z0p (S:=fun u=>Below w1.heap.size w1 u) _ _ (by simp only [List.pop_toArray,List.dropLast_cons_cons,List.dropLast_singleton];rfl) (by simp only [List.back?_toArray,List.getLast?_cons_cons,List.getLast?_singleton];rfl) (by kernel_rfl) (by kernel_rfl) (Below.refl _ _).drew (fun hHeld=>?_)
 refine tl 0 (.pointer (some ⟨gb,0,none⟩)) rfl ?_
 try simp only [z]
 refine tl 1 (.pointer (some ⟨q d,0,none⟩)) rfl ?_ (fun u hu=>by have x1:=(r1.later hu).cell 0 _ rfl;go_simp)
 try simp only [z]
 refine tl 2 (.pointer (some ⟨q d,0,none⟩)) rfl ?_
 try simp only [z]
 refine tl 3 (.pointer (some ⟨q d,3,none⟩)) rfl ?_
 try simp only [z]
 refine tl 4 (.map (some (nb d))) rfl ?_ (fun u hu=>by have x1:=(H1.later hu).n3 hd;go_simp)
 try simp only [z]
 refine tl 5 (.pointer (some ⟨gb,1,none⟩)) rfl ?_
 try simp only [z]
 refine tl 6 (.string (str s)) rfl ?_ (fun u hu=>by have x1:=(r1.later hu).cell 1 _ rfl;go_simp)
 try simp only [z]
 refine tl 7 (.int .i64 i) rfl ?_
 try simp only [z]
 refine wpAnyH_done (by kernel_rfl) ?_ _
 have H2:=H1.later hHeld
 have b2:=Z00q b1 hHeld (Nat.le_refl _)
 generalize w1.drew=w2 at *
 show wpList _ _ _ [_] _ _
 refine Zdm (by rfl) _ _ _ (by rfl) (nb d) B (Z.nd d).nm (by rfl) s (by rfl) i (by rfl) (H2.nm d hd).2 hso (by omega) hsl hi0 ?_
 intro w3 m3 s3
 have H3:=H2.names hd hdl.2 (Nat.le_succ B) m3 s3
 change Tw w3 tg g mb ob q nb sv (B+1) (Z.put d s i)at H3
 have c0:=H3.c0
 have lo:=H3.look ek.1 hwf
 have n1:=H3.n1 ek.1
 have f1:=(H3.nd i ek.1).2.frozen 1
 rw [ek.2]at n1
 have e2:Hid (Z.nam d s i=(Z.put d s i).up i ⟨((Z.put d s i).nd i).k,(Z.nd i).ln+1,((Z.put d s i).nd i).d,((Z.put d s i).nd i).nm⟩):=by show _=_;unfold Tz.nam Tz.lnk;rw [ek.2]
 have H4:=H3.links ek.1 (by rw [Z0h];exact hil.2) ((Z.nd i).ln+1)
 have e2':=e2.out
 rw [← e2']at H4
 clear e2'
 generalize (Z.nd i).ln=L at *
 have hw:IntKind.i64.wrap (L+1)=L+1:=by rw [IntKind.wrap_i64];omega
 clear hln ek
 go_wp2_with fail
 first | go_end0 | refine bodyPost_ret (results_none rfl _ _ _) rfl ?_
 refine⟨rfl,Z4m hU H4 (((Stp.of_below b2 U).next s3 (fun y e=>?_)).setCell (p:=⟨q i,1,none⟩) (.inl ?_) _) (fun y hy=> .inl hy)⟩
 · subst e;exact .inl ((hU _).2 (by have:=(H.nm d hd).1;omega))
 · exact(hU _).2 (by have:=(H.nd i hk).1;show tg (q i)≠0;omega)
theorem Z3b {w:World} {U:Nat→Prop} {g B m n:Nat} {q:Int→Nat} {Z:Tz} {x:Int→Int} (h:Tx w U g q B Z) (hz:Z.okD m n x) (hm:m≤1000) (hx:∀ j,2≤j→x j=0) {d i:Int} (hd:(Z.nd d).k=2) (s:List UInt8) (hl:lk (Z.nd d).nm s=i) (hi:2≤i) (hs:s.length≤10):
 Calls Tryz.prog 105 #[.pointer (some ⟨g,0,none⟩), .agg (spC (some (q d)) s i).toArray] w fun e w'=>e= .returned (.tuple #[])∧TxG U g q B (Z.un d s i) w w':=by
 obtain⟨tg,mb,ob,nb,sv,H,hU⟩:=h
 have hk:(Z.nd i).k≠0:=by have:=(Z2n hz d (s:=s) (by omega)).2;rw [hl]at this;exact this
 have hwf:=Z13 hz hm hk
 have hdk:(Z.nd d).k≠0:=by rw [hd];decide
 have hdl:=hz.live hdk
 have hil:=hz.live hk
 have hso:=hz.so d
 have hsl:s.length≤maxLen:=by unfold maxLen;omega
 have ek:((Z.put d s 0).nd i).k≠0∧((Z.put d s 0).nd i).ln=(Z.nd i).ln:=by
  rw [Z0v hdl.2]
  split
  · rename_i e
    have:i=d:=by omega
    subst this;exact⟨hdk,rfl⟩
  · exact⟨hk,rfl⟩
 have hln:=hz.lx i
 have hc1:1≤(Z.nd i).ln:=by
  obtain⟨y,q1,q2,q3⟩:=Z3x (l:=(Z.nd d).nm) (s:=s) (by omega)
  have c:=Z48 Z.N d.toNat y q1
  rw [q3,hl]at c
  have:=hz.ln i (by omega) hk
  have:=hx i hi
  omega
 have hz2:((Z.put d s 0).lnk i (-1)).okD m n x:=by
  refine((hz.put0 hd s).lnk (i:=i) ek.1 (-1) (by rw [ek.2];omega)).mono (Nat.le_refl _) (Nat.le_refl _) (fun j hj _=>?_)
  rw [hl]
  by_cases e:i=j
  · simp [e];omega
  · rw [if_neg e,if_neg (fun h=>e h.symm)];omega
 go_enter Tryz.func105,Tryz.ntmps105
 go_wp2_with (refine Z2m 145 (by rfl) _ (by rfl) (spC (some (q d)) s i) (by rfl) (Z4l _ _ _) ?_;intro gb w1 z1 z2 r1 b1)
 have H1:=H.later b1
 refine Z0p (S:=fun u=>Below w1.heap.size w1 u) _ _ (by simp only [List.pop_toArray,List.dropLast_cons_cons,List.dropLast_singleton];rfl) (by simp only [List.back?_toArray,List.getLast?_cons_cons,List.getLast?_singleton];rfl) (by kernel_rfl) (by kernel_rfl) (Below.refl _ _).drew (fun hHeld=>?_)
 refine tl 0 (.pointer (some ⟨gb,0,none⟩)) rfl ?_
 try simp only [z]
 refine tl 1 (.pointer (some ⟨q d,0,none⟩)) rfl ?_ (fun u hu=>by have x1:=(r1.later hu).cell 0 _ rfl;go_simp)
 try simp only [z]
 refine tl 2 (.pointer (some ⟨q d,0,none⟩)) rfl ?_
 try simp only [z]
 refine tl 3 (.pointer (some ⟨q d,3,none⟩)) rfl ?_
 try simp only [z]
 refine tl 4 (.map (some (nb d))) rfl ?_ (fun u hu=>by have x1:=(H1.later hu).n3 hd;go_simp)
 try simp only [z]
 refine tl 5 (.pointer (some ⟨gb,1,none⟩)) rfl ?_
 try simp only [z]
 refine tl 6 (.string (str s)) rfl ?_ (fun u hu=>by have x1:=(r1.later hu).cell 1 _ rfl;go_simp)
 try simp only [z]
 refine wpAnyH_done (by kernel_rfl) ?_ _
 have H2:=H1.later hHeld
 have r2:=r1.later hHeld
 have b2:=Z00q b1 hHeld (Nat.le_refl _)
 generalize w1.drew=w2 at *
 clear hHeld
 show wpList _ _ _ [_] _ _
 refine Zdg (s:=s) (by rfl) _ _ (by rfl) (by rfl) (by rfl) (fun ty=>(H2.nm d hd).2.drop hso hsl ty) ?_
 rintro w3 ⟨m3,s3⟩
 have H3:=H2.names hd hdl.2 (Nat.le_refl B) m3 s3
 change Tw w3 tg g mb ob q nb sv B (Z.put d s 0)at H3
 have gn:gb≠nb d:=fun e=>by have:=H.low (nb d) (by have:=(H.nm d hd).1;omega);omega
 have r3:=r2.step s3 gn
 have e2:Hid ((Z.put d s 0).lnk i (-1)=(Z.put d s 0).up i ⟨((Z.put d s 0).nd i).k,(Z.nd i).ln+ -1,((Z.put d s 0).nd i).d,((Z.put d s 0).nd i).nm⟩):=by show _=_;unfold Tz.lnk;rw [ek.2]
 go_wp2_with fail
 refine Z0p (S:=fun u=>Below w3.heap.size w3 u) _ _ (by simp only [List.pop_toArray,List.dropLast_cons_cons,List.dropLast_singleton];rfl) (by simp only [List.back?_toArray,List.getLast?_cons_cons,List.getLast?_singleton];rfl) (by kernel_rfl) (by kernel_rfl) (Below.refl _ _).drew (fun hHeld=>?_)
 have hw:IntKind.i64.wrap ((Z.nd i).ln - 1)=(Z.nd i).ln+ -1:=by rw [IntKind.wrap_i64];omega
 refine tl 0 (.pointer (some ⟨g,0,none⟩)) rfl ?_
 try simp only [z]
 refine tl 1 (.pointer (some ⟨g,0,none⟩)) rfl ?_
 try simp only [z]
 refine tl 2 (.pointer (some ⟨g,0,none⟩)) rfl ?_
 try simp only [z]
 refine tl 3 (.map (some mb)) rfl ?_ (fun u hu=>by have x1:=(H3.later hu).c0;go_simp)
 try simp only [z]
 refine tl 4 (.pointer (some ⟨gb,2,none⟩)) rfl ?_
 try simp only [z]
 refine tl 5 (.int .i64 i) rfl ?_ (fun u hu=>by have x1:=(r3.later hu).cell 2 _ rfl;go_simp)
 try simp only [z]
 refine tl 6 (.pointer (some ⟨q i,0,none⟩)) rfl ?_ (fun u hu=>by have x1:=(H3.later hu).look ek.1 hwf;go_simp)
 try simp only [z]
 refine tl 7 (.pointer (some ⟨q i,0,none⟩)) rfl ?_
 try simp only [z]
 refine tl 8 (.pointer (some ⟨q i,1,none⟩)) rfl ?_
 try simp only [z]
 refine tl 9 (.int .i64 (Z.nd i).ln) rfl ?_ (fun u hu=>by have x1:=(H3.later hu).n1 ek.1;rw [ek.2]at x1;go_simp)
 try simp only [z]
 refine tl 10 (.int .i64 ((Z.nd i).ln+ -1)) rfl ?_
 try simp only [z]
 refine tl 11 (.pointer (some ⟨q i,0,none⟩)) rfl ?_
 try simp only [z]
 refine tl 12 (.pointer (some ⟨q i,1,none⟩)) rfl ?_
 try simp only [z]
 refine wpAnyH_done (by kernel_rfl) ?_ _
 have H4:=H3.later hHeld
 have r4:=r3.later hHeld
 have b4:Stp (fun y=>y=nb d) w2 w3.drew:=s3.trans (Stp.of_below hHeld _)
 generalize w3.drew=w4 at *
 show wpList _ _ _ [_] _ _
 have n1:=H4.n1 ek.1
 have f1:=(H4.nd i ek.1).2.frozen 1
 have H5:=H4.links ek.1 (by rw [Z0h];exact hil.2) ((Z.nd i).ln+ -1)
 have e2':=e2.out
 rw [← e2']at H5
 clear e2'
 have gq:gb≠q i:=fun e=>by have:=H.low (q i) (by have:=(H.nd i hk).1;omega);omega
 have r5:=r4.step ((Stp.refl (fun x=>x=q i) w4).setCell (p:=⟨q i,1,none⟩) (.inl rfl) (.int .i64 ((Z.nd i).ln+ -1))) gq
 have c5:=r5.cell 2 _ rfl
 have K:=fun U' (hU':Tx (w4.setCell ⟨q i,1,none⟩ (.int .i64 ((Z.nd i).ln+ -1))) U' g q B ((Z.put d s 0).lnk i (-1)))=>Z6z hU' hz2 hm (i:=i) (by
  unfold Tz.lnk
  rw [Z20 (by rw [Z0h];exact hil.2),if_pos rfl];exact ek.1)
 have K1:=K _ ⟨tg,mb,ob,nb,sv,H5,fun y=>Iff.rfl⟩
 have k6:Stp U w (w4.setCell ⟨q i,1,none⟩ (.int .i64 ((Z.nd i).ln+ -1))):=((Stp.of_below b2 U).next b4 (fun y e=>by subst e;exact .inl ((hU _).2 (by have:=(H.nm d hd).1;omega)))).setCell (p:=⟨q i,1,none⟩) (.inl ((hU _).2 (by have:=(H.nd i hk).1;show tg (q i)≠0;omega))) _
 clear K
 go_wp2_with (go_at_call 101;refine K1.mono ?_;rintro e w6 ⟨rfl,G6⟩)
 first | go_end0 | refine bodyPost_ret (results_none rfl _ _ _) rfl ?_
 obtain⟨U6,g1,g2,g3⟩:=G6
 refine⟨rfl,U6,g1,k6.next g2 (fun y hy=> .inl ((hU y).2 hy)),fun y hy=>?_⟩
 rcases g3 y hy with e | e
 · exact .inl ((hU y).2 e)
 · exact .inr ⟨Nat.le_trans k6.size e.1,e.2⟩
theorem Zco (l:List UInt8) (f k:Nat) (hk:k < l.length) (hf:f≤k) (h:l.getD k 0=47) (hno:∀ j,f≤j→j < k→l.getD j 0≠47):prt (l.drop f)=(l.take k).drop f::prt (l.drop (k+1)):=by
 have e:l.drop f=(l.take k).drop f++47::l.drop (k+1):=by
  have e1:l=l.take k++l.drop k:=(List.take_append_drop k l).symm
  have e2:l.drop k=l[k]::l.drop (k+1):=List.drop_eq_getElem_cons hk
  have e3:l[k]=47:=by rw [List.getD_eq_getElem?_getD,List.getElem?_eq_getElem hk]at h;exact h
  rw [e3]at e2
  have e4:l.drop f=(l.take k++l.drop k).drop f:=by rw [← e1]
  rw [e4,List.drop_append_of_le_length (by simp;omega),e2]
 rw [e]
 refine Z9f _ _ (fun b hb=>?_)
 obtain⟨j,hj,rfl⟩:=List.getElem_of_mem hb
 simp at hj
 have:=hno (f+j) (by omega) (by omega)
 rw [List.getD_eq_getElem?_getD,List.getElem?_eq_getElem (by omega)]at this
 simpa using this
theorem Zcn (l:List UInt8) (f:Nat) (hno:∀ j,f≤j→j < l.length→l.getD j 0≠47):prt (l.drop f)= [l.drop f]:=by
 refine Z9h _ (fun b hb=>?_)
 obtain⟨j,hj,rfl⟩:=List.getElem_of_mem hb
 simp at hj
 have:=hno (f+j) (by omega) (by omega)
 rw [List.getD_eq_getElem?_getD,List.getElem?_eq_getElem (by omega)]at this
 simpa using this
set_option maxRecDepth 100000 in
set_option maxHeartbeats 2000000 in
theorem Z9r (l:List UInt8) (w:World) (hl:l.length≤5000):
 Calls Tryz.prog 88 #[.string (str l), .int .u8 47] w fun e w'=>∃ v,e= .returned v∧OwT w.heap.size w' v (prt l)∧Below w.heap.size w w':=by
 have hz:=Z1t l
 have hsub:=Z9o l
 have hidx:∀ (k:Nat) (h:k < (str l).size),(str l)[k]'h=l.getD k 0:=fun k h=>Z6t l k h
 go_enter Tryz.func88,Tryz.ntmps88
 go_wp2_with (first
  | (refine Z8z (B:=w.heap.size) (by rfl) (by rfl) (Nat.le_refl _) ?_;intro g1 w1 o1 b1))
 go_loopw [5,6,7] (fun ov fv iv wr=>∃ (f k:Nat) (D:List (List UInt8)),f≤k∧k≤l.length∧fv= .int .i64 (f:Int)∧iv= .int .i64 (k:Int)∧D.length≤k∧prt l=D++prt (l.drop f)∧(∀ j,f≤j→j < k→l.getD j 0≠47)∧OwT w.heap.size wr ov D∧Below w.heap.size w wr) (fun _ _ iv _=>l.length - (intOf iv).toNat)
 case atStart=>exact⟨0,0, [],by omega,by omega,rfl,rfl,by simp,by simp,fun j _ h=>absurd h (by omega),o1,b1⟩
 case round=>
  obtain⟨f,k,D,hf,hk,rfl,rfl,hD,hp,hno,hO,hB⟩:=hrel
  have hP:Hid (prt l=D++prt (l.drop f)):=hp
  clear hp
  by_cases hlt:k < l.length
  · have hlt':(k:Int) < l.length:=by omega
    have hidk:∀ h,(str l)[k]'h=l.getD k 0:=hidx k
    have hs:=hsub f k
    have hstep:=Zco l f k hlt hf
    have hN:Hid (∀ j,f≤j→j < k→l.getD j 0≠47):=hno
    have hb0:Hid (∀ b,b=l.getD k 0→b≠47→∀ j,f≤j→j < k+1→l.getD j 0≠47):=fun b hb hne j h1 h2=>by
     by_cases e:j < k
     · exact hN.out j h1 e
     · obtain rfl:j=k:=by omega
       rw [← hb];exact hne
    have hst:Hid (∀ b,b=l.getD k 0→b=47→prt (l.drop f)=(l.take k).drop f::prt (l.drop (k+1))):=fun b hb e=>hstep (by rw [← hb];exact e) hN.out
    clear hno hstep hidx hsub
    have c1:(f:Int)≤(k:Int):=by omega
    have c2:(k:Int)≤(l.length:Int):=by omega
    have c0:(0:Int)≤(f:Int):=by omega
    obtain⟨b,hb⟩:∃ b,Hid (b=l.getD k 0):=⟨_,rfl⟩
    rw [← hb.out]at hidk
    by_cases g:(b.toNat:Int)=47
    · have e47:b=47:=UInt8.toNat_inj.1 (show b.toNat=47 by omega)
      have hnx:Hid (prt l=(D++ [(l.take k).drop f])++prt (l.drop (k+1))):=by show _=_;rw [hP.out,hst.out b hb.out e47];simp
      clear hst hb0 hP
      generalize (l.take k).drop f=X at *
      go_wp2_with (first
       | (refine Z65 (by rfl) _ (by rfl) X (by rfl) ?_;intro g2 w2 a2 o2 b2;have hO2:=hO.later b2;have hB2:=Z00q hB b2 (Nat.le_refl _))
       | (refine Z5g w.heap.size rfl _ _ (by rfl) (by rfl) hO2 _ 1 1 (by rfl) o2 (by omega) hB2.size ?_;intro v3 w3 o3 s3))
      go_roundw
      case rel=>exact⟨k+1,k+1,D++ [X],Nat.le_refl _,by omega,by go_num,by go_num,by simp;omega,hnx.out,fun j h1 h2=>absurd h2 (by omega),o3,((Stp.of_below hB2 (fun x=>w.heap.size≤x)).next s3 (fun _ h=> .inl h)).below (Nat.le_refl _) (fun _ h=>h)⟩
      case measure=>simp [intOf];omega
    · have ne47:b≠47:=fun e=>g (by rw [e];rfl)
      have hno2:=hb0.out b hb.out ne47
      have hN2:Hid (∀ j,f≤j→j < k+1→l.getD j 0≠47):=hno2
      clear hno2 hb0 hst
      go_wp2
      go_roundw
      case rel=>exact⟨f,k+1,D,by omega,by omega,by go_num,by go_num,by omega,hP.out,hN2.out,hO,hB⟩
      case measure=>simp [intOf];omega
  · have hk':k=l.length:=by omega
    subst hk'
    have hs:=hsub f l.length
    rw [List.take_length]at hs
    have hnx:Hid (prt l=D++ [l.drop f]):=by show _=_;rw [hP.out,Zcn l f hno]
    clear hP hno hidx hsub
    have c1:(f:Int)≤(l.length:Int):=by omega
    have c0:(0:Int)≤(f:Int):=by omega
    generalize l.drop f=X at *
    go_wp2_with (first
     | (refine Z65 (by rfl) _ (by rfl) X (by rfl) ?_;intro g2 w2 a2 o2 b2;have hO2:=hO.later b2;have hB2:=Z00q hB b2 (Nat.le_refl _))
     | (refine Z5g w.heap.size rfl _ _ (by rfl) (by rfl) hO2 _ 1 1 (by rfl) o2 (by omega) hB2.size ?_;intro v3 w3 o3 s3))
    go_returns
    exact⟨_,rfl,by rw [hnx.out];exact o3,((Stp.of_below hB2 (fun x=>w.heap.size≤x)).next s3 (fun _ h=> .inl h)).below (Nat.le_refl _) (fun _ h=>h)⟩
theorem Z66 {l:List UInt8} {x:List UInt8} (h:l≠x):(l==x)=false:=by simpa using h
set_option maxRecDepth 100000 in
theorem Z9v (l:List UInt8) (w:World):Calls Tryz.prog 83 #[.string (str l)] w fun e w'=>e= .returned (.bool (nm l))∧Below w.heap.size w w':=by
 have hz:=Z1t l
 have ht:=Z17 l
 by_cases h1:(l.length:Int) < 1
 · rw [Z46 (fun h=>by have:=h.1;omega)]
   go_enter Tryz.func83,Tryz.ntmps83
   go_wp2
   go_returns
   exact⟨rfl,Below.refl _ _⟩
 by_cases h2:10 < (l.length:Int)
 · rw [Z46 (fun h=>by have:=h.2.1;omega)]
   go_enter Tryz.func83,Tryz.ntmps83
   go_wp2
   go_returns
   exact⟨rfl,Below.refl _ _⟩
 by_cases h3:l= [46]
 · rw [Z46 (fun h=>h.2.2.1 h3)]
   subst h3
   go_enter Tryz.func83,Tryz.ntmps83
   go_wp2
   go_returns
   exact⟨rfl,Below.refl _ _⟩
 by_cases h4:l= [46,46]
 · rw [Z46 (fun h=>h.2.2.2 h4)]
   subst h4
   go_enter Tryz.func83,Tryz.ntmps83
   go_wp2
   go_returns
   exact⟨rfl,Below.refl _ _⟩
 have hd:Hid (hdOk l):=⟨by omega,by omega,h3,h4⟩
 have e3:=Z66 h3
 have e4:=Z66 h4
 clear h3 h4
 obtain⟨B,hB⟩:∃ B,Hid (nm l=B):=⟨_,rfl⟩
 rw [hB.out]
 go_enter Tryz.func83,Tryz.ntmps83
 go_wp2
 go_loopw [] (fun wr=>∃ k:Nat,wr=w.iter (str l) k∧k≤l.length∧∀ j,j < k→okB (l.getD j 0)) (fun wr=>l.length - wr.iterPos w.heap.size)
 case atStart=>exact⟨0,rfl,Nat.zero_le _,fun j hj=>absurd hj (by omega)⟩
 case round=>
  obtain⟨k,rfl,hk,hall⟩:=hrel
  have hbel:Below w.heap.size w (w.iter (str l) k):=(Below.refl _ _).alloc (Nat.le_refl _) _
  by_cases hlt:k < l.length
  · have hlt':k < (str l).size:=by rw [Z1t];exact hlt
    have hget:=Z6t l k hlt'
    have hA:Hid (∀ j,j < k→okB (l.getD j 0)):=hall
    clear hall
    have hbad:¬okB (l.getD k 0)→Hid (nm l=false):=fun h=>Zax k hlt h
    by_cases ha:(l.getD k 0).toNat < 128
    · have hnx:=fun ty=>run_next_ascii (P:=Tryz.prog) w (str l) k ty hlt' (by rw [hget];exact ha)
      rw [hget]at hnx
      have hon:okB (l.getD k 0)→Hid (∀ j,j < k+1→okB (l.getD j 0)):=fun h j hj=>by
       by_cases hj2:j < k
       · exact hA.out j hj2
       · obtain rfl:j=k:=by omega
         exact h
      have bel2:Below w.heap.size w (w.iter (str l) (k+1)):=(Below.refl _ _).alloc (Nat.le_refl _) _
      clear hget
      generalize l.getD k 0=b at *
      by_cases g1:(b.toNat:Int) < 33
      · have:=hbad (fun h=>by have:=h.1;omega)
        go_wp2
        go_returns
        exact⟨by rw [← hB.out,this.out];rfl,bel2⟩
      by_cases g2:126 < (b.toNat:Int)
      · have:=hbad (fun h=>by have:=h.2.1;omega)
        go_wp2
        go_returns
        exact⟨by rw [← hB.out,this.out];rfl,bel2⟩
      by_cases g3:(b.toNat:Int)=47
      · have:=hbad (fun h=>by have:=h.2.2;omega)
        go_wp2
        go_returns
        exact⟨by rw [← hB.out,this.out];rfl,bel2⟩
      have ho:=hon ⟨by omega,by omega,by omega⟩
      go_wp2
      go_roundw
      case rel=>exact⟨k+1,rfl,by omega,ho.out⟩
      case measure=>simp;omega
    · have hnx:=fun ty=>run_next_any (P:=Tryz.prog) w (str l) k ty hlt'
      have hd2:=decode_high (str l) k hlt' (by rw [hget];omega)
      have:=hbad (fun h=>by have:=h.2.1;omega)
      have bel2:∀ j,Below w.heap.size w (w.iter (str l) j):=fun j=>(Below.refl _ _).alloc (Nat.le_refl _) _
      generalize Utf8.decode (str l) k=D at *
      obtain⟨d,m⟩:=D
      simp only at hd2 hnx
      have g1:¬(d:Int) < 33:=by omega
      have g2:126 < (d:Int):=by omega
      go_wp2
      go_returns
      exact⟨by rw [← hB.out,this.out];rfl,bel2 _⟩
  · obtain rfl:k=l.length:=by omega
    have hnx:=fun ty=>run_next_end (P:=Tryz.prog) w (str l) l.length ty (by rw [Z1t];omega)
    have hN:Hid (nm l=true):=Zaw hd.out hall
    clear hall
    go_wp2
    go_returns
    exact⟨by rw [← hB.out,hN.out];rfl,hbel⟩
theorem Z5a (l:List UInt8) (w:World):Calls Tryz.prog 44 #[.string (str l)] w fun e w'=>e= .returned (.int .i64 (nE l))∧Below w.heap.size w w':=by
 have H:=Z9v l
 unfold nE
 generalize nm l=B at *
 cases B with
 | true=>
   rw [if_pos rfl]
   go_enter Tryz.func44,Tryz.ntmps44
   go_wp2_with (go_at_call 83;refine(H _).mono ?_;rintro e u ⟨rfl,b⟩)
   go_returns
   exact⟨rfl,b⟩
 | false=>
   rw [if_neg (by decide)]
   go_enter Tryz.func44,Tryz.ntmps44
   go_wp2_with (go_at_call 83;refine(H _).mono ?_;rintro e u ⟨rfl,b⟩)
   go_returns
   exact⟨rfl,b⟩
set_option maxRecDepth 100000 in
theorem Za1 (l:List UInt8) (w:World):Calls Tryz.prog 89 #[.string (str l)] w fun e w'=>e= .returned (.int .i64 (nE l))∧w=w':=by
 have hz:=Z1t l
 have ht:=Z17 l
 have no:nm l=false→nE l=45:=fun h=>by unfold nE;rw [h];rfl
 have yes:nm l=true→nE l=0:=fun h=>by unfold nE;rw [if_pos h]
 by_cases h1:(l.length:Int) < 1
 · rw [no (Z46 (fun h=>by have:=h.1;omega))]
   clear no yes
   go_enter Tryz.func89,Tryz.ntmps89
   go_wp2
   go_returns
   exact⟨rfl,rfl⟩
 by_cases h2:10 < (l.length:Int)
 · rw [no (Z46 (fun h=>by have:=h.2.1;omega))]
   clear no yes
   go_enter Tryz.func89,Tryz.ntmps89
   go_wp2
   go_returns
   exact⟨rfl,rfl⟩
 by_cases h3:l= [46]
 · rw [no (Z46 (fun h=>h.2.2.1 h3))]
   clear no yes
   subst h3
   go_enter Tryz.func89,Tryz.ntmps89
   go_wp2
   go_returns
   exact⟨rfl,rfl⟩
 by_cases h4:l= [46,46]
 · rw [no (Z46 (fun h=>h.2.2.2 h4))]
   clear no yes
   subst h4
   go_enter Tryz.func89,Tryz.ntmps89
   go_wp2
   go_returns
   exact⟨rfl,rfl⟩
 have hd:Hid (hdOk l):=⟨by omega,by omega,h3,h4⟩
 have e3:=Z66 h3
 have e4:=Z66 h4
 have hB0:∀ k,k < l.length→¬okB (l.getD k 0)→Hid (nE l=45):=fun k hk h=>no (Zax k hk h)
 have hB1:(∀ k,k < l.length→okB (l.getD k 0))→Hid (nE l=0):=fun h=>yes (Zaw hd.out h)
 clear h3 h4 no yes
 obtain⟨B,hB⟩:∃ B,Hid (nE l=B):=⟨_,rfl⟩
 rw [hB.out]
 have hidx:∀ (k:Nat) (h:k < (str l).size),(str l)[k]'h=l.getD k 0:=fun k h=>Z6t l k h
 go_enter Tryz.func89,Tryz.ntmps89
 go_wp2
 go_loopw [3] (fun iv wr=>∃ k:Nat,iv= .int .i64 k∧wr=w∧k≤l.length∧∀ j,j < k→okB (l.getD j 0)) (fun iv _=>l.length - (intOf iv).toNat)
 case atStart=>exact⟨0,rfl,rfl,Nat.zero_le _,fun j hj=>absurd hj (by omega)⟩
 case round=>
  obtain⟨k,rfl,rfl,hk,hall⟩:=hrel
  by_cases hlt:k < l.length
  · have hlt':(k:Int) < l.length:=by omega
    have hA:Hid (∀ j,j < k→okB (l.getD j 0)):=hall
    clear hall
    have hbad:=hB0 k hlt
    have hidk:∀ h,(str l)[k]'h=l.getD k 0:=hidx k
    have hon:okB (l.getD k 0)→Hid (∀ j,j < k+1→okB (l.getD j 0)):=fun h j hj=>by
     by_cases hj2:j < k
     · exact hA.out j hj2
     · obtain rfl:j=k:=by omega
       exact h
    clear hidx
    generalize l.getD k 0=b at *
    by_cases g1:(b.toNat:Int) < 33
    · have:=hbad (fun h=>by have:=h.1;omega)
      go_wp2
      go_returns
      exact⟨by rw [← hB.out,this.out];rfl,rfl⟩
    by_cases g2:126 < (b.toNat:Int)
    · have:=hbad (fun h=>by have:=h.2.1;omega)
      go_wp2
      go_returns
      exact⟨by rw [← hB.out,this.out];rfl,rfl⟩
    by_cases g3:(b.toNat:Int)=47
    · have:=hbad (fun h=>by have:=h.2.2;omega)
      go_wp2
      go_returns
      exact⟨by rw [← hB.out,this.out];rfl,rfl⟩
    have ho:=hon ⟨by omega,by omega,by omega⟩
    go_wp2
    go_roundw
    case rel=>exact⟨k+1,by go_num,trivial,by omega,ho.out⟩
    case measure=>simp [intOf];omega
  · obtain rfl:k=l.length:=by omega
    have hN:=hB1 hall
    clear hall hB0 hB1
    go_wp2
    go_returns
    exact⟨by rw [← hB.out,hN.out];rfl,rfl⟩
theorem Zdt (R:List UInt8):prt R=ctA R::(if ctF R=true then prt (ctB R)else [])∧(ctB R).length+(if ctF R=true then 1 else 0) < R.length+1∧(ctB R).length≤R.length:=by
 unfold ctA ctB ctF
 rcases Z6p R with⟨h1,h2⟩ | ⟨i,h1,h2,h3⟩
 · rw [h1];simp [h2]
 · rw [h1]
   have hne:¬(i:Int)= -1:=by omega
   simp [hne,h3];omega
theorem Zfw {l:List UInt8} (h:l.head?≠some 47):spE l=45:=by
 unfold spE
 rw [if_neg (fun e=>by subst e;exact h rfl)]
 cases l with
 | nil=>rfl
 | cons b r=>
   obtain⟨x,xs,e1,e2⟩:=Z4g (b:=b) (fun e=>h (by subst e;rfl)) r
   rw [e2]
theorem Z9m {r:List UInt8} (h:r≠ []):spE (47::r)=jE (prt r):=by
 unfold spE
 rw [if_neg (fun e=>by injection e with _ e;exact h e),Z4h]
 cases e:prt r with
 | nil=>exact absurd e (Z6a r)
 | cons x xs=>rfl
theorem Zei {r:List UInt8} (h:r≠ []) (he:jE (prt r)=0):spN (47::r)=prt r:=by
 unfold spN
 rw [if_pos ⟨by rw [Z9m h];exact he,fun e=>by injection e with _ e;exact h e⟩,Z4h];rfl
def mzV (v b:Value):Nat:=(match v with | .string s=>s.size | _=>0)+(match b with | .bool true=>1 | _=>0)
theorem Zbp (D:List (List UInt8)) (X:List UInt8):(D.length≤16→(D++ [X]).take 17=D.take 17++ [X])∧(16 < D.length→(D++ [X]).take 17=D.take 17):=by
 refine⟨fun h=>?_,fun h=>?_⟩
 · rw [List.take_of_length_le (by simp;omega),List.take_of_length_le (by omega)]
 · rw [List.take_append_of_le_length (by omega)]
def SpR (w':World) (l:List UInt8) (e:Ending):Prop:=∃ a n c,e= .returned (.tuple #[.slice a n c, .int .i64 (spE l)])∧Sts w' a n c (spN l)
theorem Z3h (w':World) (l:List UInt8) (k:Int) (h:spE l=k) (hk:k≠0):SpR w' l (.returned (.tuple #[.slice none 0 0, .int .i64 k])):=
 ⟨none,0,0,by rw [h],by rw [Z6g (by rw [h];exact hk)];exact Sts.nilSlice _⟩
theorem fr38 (t:Array Value) (h:t.size=38):∃ vv0 vv1 vv2 vv3 vv4 vv5 vv6 vv7 vv8 vv9 vv10 vv11 vv12 vv13 vv14 vv15 vv16 vv17 vv18 vv19 vv20 vv21 vv22 vv23 vv24 vv25 vv26 vv27 vv28 vv29 vv30 vv31 vv32 vv33 vv34 vv35 vv36 vv37:Value,t=#[vv0,vv1,vv2,vv3,vv4,vv5,vv6,vv7,vv8,vv9,vv10,vv11,vv12,vv13,vv14,vv15,vv16,vv17,vv18,vv19,vv20,vv21,vv22,vv23,vv24,vv25,vv26,vv27,vv28,vv29,vv30,vv31,vv32,vv33,vv34,vv35,vv36,vv37]:=by
 obtain⟨l⟩:=t
 have h':l.length=38:=h
 clear h
 rcases l with _ | ⟨vv0,_ | ⟨vv1,_ | ⟨vv2,_ | ⟨vv3,_ | ⟨vv4,_ | ⟨vv5,_ | ⟨vv6,_ | ⟨vv7,_ | ⟨vv8,_ | ⟨vv9,_ | ⟨vv10,_ | ⟨vv11,_ | ⟨vv12,_ | ⟨vv13,_ | ⟨vv14,_ | ⟨vv15,_ | ⟨vv16,_ | ⟨vv17,_ | ⟨vv18,_ | ⟨vv19,_ | ⟨vv20,_ | ⟨vv21,_ | ⟨vv22,_ | ⟨vv23,_ | ⟨vv24,_ | ⟨vv25,_ | ⟨vv26,_ | ⟨vv27,_ | ⟨vv28,_ | ⟨vv29,_ | ⟨vv30,_ | ⟨vv31,_ | ⟨vv32,_ | ⟨vv33,_ | ⟨vv34,_ | ⟨vv35,_ | ⟨vv36,_ | ⟨vv37,_ | ⟨vvy,lly⟩⟩⟩⟩⟩⟩⟩⟩⟩⟩⟩⟩⟩⟩⟩⟩⟩⟩⟩⟩⟩⟩⟩⟩⟩⟩⟩⟩⟩⟩⟩⟩⟩⟩⟩⟩⟩⟩⟩
 all_goals first | exact⟨_,_,_,_,_,_,_,_,_,_,_,_,_,_,_,_,_,_,_,_,_,_,_,_,_,_,_,_,_,_,_,_,_,_,_,_,_,_,rfl⟩ | (simp at h')
section
variable {Q : Exit → Act → World → Prop} {a : Act} {w : World} {l : Nat} {J : Act → World → Prop}
theorem Z4v:Exit.jump l J Q .ret a w=Q .ret a w:=rfl
end
def JmpS (l:List UInt8) (w:World) (a':Act) (w':World):Prop:=a'.tmps.size=38∧a'.defers= []∧spE l=45∧Below w.heap.size w w'
set_option maxRecDepth 100000 in
set_option maxHeartbeats 4000000 in
theorem Z1p (l:List UInt8) (w:World) (hl:l.length≤5000):
 Calls Tryz.prog 15 #[.string (str l)] w fun e w'=>SpR w' l e∧Below w.heap.size w w':=by
 have H1:=Zcm l
 have ht:=Z17 l
 by_cases h1:l.head? =some 47
 · cases l with
   | nil=>cases h1
   | cons b r=>
     obtain rfl:b=47:=by simpa using h1
     rw [if_pos h1,decide_eq_true h1]at H1
     simp only [List.tail_cons]at H1
     cases r with
     | nil=>
       have fin:∀ w',SpR w' [47] (.returned (.tuple #[.slice none 0 0, .int .i64 0])):=fun w'=>⟨none,0,0,by simp [spE],by rw [show spN [47]= [] by simp [spN]];exact Sts.nilSlice _⟩
       go_enter Tryz.func15,Tryz.ntmps15
       go_wp2
       go_step3
       go_wp2_with (first
        | (go_at_call 42;refine(H1 _).mono ?_;rintro e u ⟨rfl,rfl⟩))
       rw [Exit.noGoto_ret]
       go_returns
       exact⟨fin _,Below.refl _ _⟩
     | cons b2 r2=>
       have hne:(b2::r2)≠ []:=by simp
       have he:=Z9m hne
       have hN:=Zei hne
       have e3:((47::b2::r2:List UInt8)== [47])=false:=by simp
       have hlen:(b2::r2).length≤5000:=by simp at hl ⊢;omega
       generalize (b2::r2:List UInt8)=r at *
       have he':Hid (spE (47::r)=jE (prt r)):=he
       have hN':Hid (jE (prt r)=0→spN (47::r)=prt r):=hN
       clear he hN hl h1 hne
       go_enter Tryz.func15,Tryz.ntmps15
       go_wp2
       refine wp_scope_jumps 0 (JmpS (47::r) w) (fun _ _=>0) rfl ?_ ?_
       rotate_left
       · intro a' u ⟨f1,f2,f3,f4⟩
         obtain⟨t,d⟩:=a'
         obtain⟨vv0,vv1,vv2,vv3,vv4,vv5,vv6,vv7,vv8,vv9,vv10,vv11,vv12,vv13,vv14,vv15,vv16,vv17,vv18,vv19,vv20,vv21,vv22,vv23,vv24,vv25,vv26,vv27,vv28,vv29,vv30,vv31,vv32,vv33,vv34,vv35,vv36,vv37,rfl⟩:=fr38 t f1
         obtain rfl:d= []:=f2
         have f5:Hid (spE (47::r)=45):=f3
         clear f3
         go_wp2
         rw [Z4v]
         go_returns
         exact⟨Z3h _ _ 45 f5.out (by decide),f4⟩
       go_wp2_with (first
        | (go_at_call 42;refine(H1 _).mono ?_;rintro e u ⟨rfl,rfl⟩))
       go_loopw [4,5,6] (fun rv mv nv wr=>∃ (D:List (List UInt8)) (R:List UInt8) (m:Bool),rv= .string (str R)∧mv= .bool m∧R.length≤5000∧(∀ x ∈ D,nm x=true)∧prt r=D++(if m=true then prt R else [])∧OwT w.heap.size wr nv (D.take 17)∧Below w.heap.size w wr) (fun rv mv _ _=>mzV rv mv)
       case atStart=>exact⟨[],r,true,rfl,rfl,hlen,fun x hx=>(by cases hx),by simp,OwT.none _,Below.refl _ _⟩
       case round=>
        obtain⟨D,R,m,rfl,rfl,hR,hall,hp,hO,hB⟩:=hrel
        have hP:Hid (prt r=D++(if m=true then prt R else [])):=hp
        have hA:Hid (∀ x ∈ D,nm x=true):=hall
        clear hp hall
        obtain⟨T,hTe⟩:∃ T,Hid (D.take 17=T):=⟨_,rfl⟩
        have hT:Hid (T.length=min 17 D.length):=by show _=_;rw [← hTe.out];simp
        rw [hTe.out]at hO
        obtain⟨av,cv,rfl,hS,_⟩:=hO.shape
        cases m with
        | false=>
          have hP2:Hid (prt r=D):=by show _=_;rw [hP.out];simp
          clear hP
          by_cases g:16 < D.length
          · have hj:spE (47::r)=3:=by rw [he'.out,hP2.out,Z7x hA.out,if_pos g]
            have g2:(16:Int) < (T.length:Int):=by have:=hT.out;omega
            go_wp2
            rw [Z4v]
            go_returns
            exact⟨Z3h _ _ 3 hj (by decide),hB⟩
          · have hj:jE (prt r)=0:=by rw [hP2.out,Z7x hA.out,if_neg g]
            have g2:¬(16:Int) < (T.length:Int):=by have:=hT.out;omega
            have e1:Hid (T=spN (47::r)):=by show _=_;rw [← hTe.out,hN'.out hj,hP2.out,List.take_of_length_le (by omega)]
            have e2:Hid (spE (47::r)=0):=by show _=_;rw [he'.out,hj]
            go_wp2
            rw [Z4v]
            go_returns
            exact⟨⟨av,T.length,cv,by rw [e2.out];rfl,by rw [← e1.out];exact hS⟩,hB⟩
        | true=>
          obtain⟨k1,k2,k3⟩:=Zdt R
          have HC:=fun w=>Z33 R w (by omega)
          have hP2:Hid (prt r=(D++ [ctA R])++(if ctF R=true then prt (ctB R)else [])):=by show _=_;rw [hP.out];simp [k1]
          have hm:Hid ((ctB R).length+(if ctF R=true then 1 else 0) < R.length+1):=k2
          have hlb:(ctB R).length≤5000:=by omega
          clear hP k1 k2 k3
          generalize ctA R=X at *
          generalize ctB R=R2 at *
          generalize ctF R=F at *
          have HX:=Z5a X
          by_cases hx:nm X=true
          · have hnx:nE X=0:=by unfold nE;rw [if_pos hx]
            rw [hnx]at HX
            have hA2:Hid (∀ x ∈ D++ [X],nm x=true):=fun x hh=>by
             rcases List.mem_append.1 hh with h | h
             · exact hA.out x h
             · rw [List.mem_singleton.1 h];exact hx
            clear hx hnx
            by_cases g:D.length≤16
            · have g2:(T.length:Int)≤16:=by have:=hT.out;omega
              have hk:Hid ((D++ [X]).take 17=T++ [X]):=by show _=_;rw [← hTe.out];exact(Zbp D X).1 g
              go_wp2_with (first
               | (go_at_call 43;refine(HC _).mono ?_;rintro e w1 ⟨rfl,b1⟩)
               | (go_at_call 44;refine(HX _).mono ?_;rintro e w2 ⟨rfl,b2⟩;have B2:=Z00q b1 b2 (Nat.le_refl _);have hO2:=hO.later B2;have hB2:=Z00q hB B2 (Nat.le_refl _))
               | (refine Z65 (by rfl) _ (by rfl) X (by rfl) ?_;intro g3 w3 a3 o3 b3;have hO3:=hO2.later b3;have hB3:=Z00q hB2 b3 (Nat.le_refl _))
               | (refine Z5g w.heap.size rfl _ _ (by rfl) (by rfl) hO3 _ 1 1 (by rfl) o3 (by have:=hT.out;omega) hB3.size ?_;intro v4 w4 o4 s4))
              go_roundw
              case rel=>exact⟨D++ [X],R2,F,rfl,rfl,hlb,hA2.out,hP2.out,by rw [hk.out];exact o4,((Stp.of_below hB3 (fun x=>w.heap.size≤x)).next s4 (fun _ h=> .inl h)).below (Nat.le_refl _) (fun _ h=>h)⟩
              case measure=>have:=hm.out;cases F<;>simp [mzV,Z1t]at this ⊢<;>omega
            · have g2:¬(T.length:Int)≤16:=by have:=hT.out;omega
              have hk:Hid ((D++ [X]).take 17=T):=by show _=_;rw [← hTe.out];exact(Zbp D X).2 (by omega)
              go_wp2_with (first
               | (go_at_call 43;refine(HC _).mono ?_;rintro e w1 ⟨rfl,b1⟩)
               | (go_at_call 44;refine(HX _).mono ?_;rintro e w2 ⟨rfl,b2⟩;have B2:=Z00q b1 b2 (Nat.le_refl _);have hO2:=hO.later B2;have hB2:=Z00q hB B2 (Nat.le_refl _)))
              go_roundw
              case rel=>exact⟨D++ [X],R2,F,rfl,rfl,hlb,hA2.out,hP2.out,by rw [hk.out];exact hO2,hB2⟩
              case measure=>have:=hm.out;cases F<;>simp [mzV,Z1t]at this ⊢<;>omega
          · have hxf:nm X=false:=by simpa using hx
            have hnx:nE X=45:=by unfold nE;rw [if_neg hx]
            rw [hnx]at HX
            have hj:Hid (spE (47::r)=45):=by show _=_;rw [he'.out];exact Zap X (by rw [hP2.out];simp) hxf
            clear hx hnx hxf
            go_wp2_with (first
             | (go_at_call 43;refine(HC _).mono ?_;rintro e w1 ⟨rfl,b1⟩)
             | (go_at_call 44;refine(HX _).mono ?_;rintro e w2 ⟨rfl,b2⟩;have B2:=Z00q b1 b2 (Nat.le_refl _);have hB2:=Z00q hB B2 (Nat.le_refl _)))
            go_step3
            exact⟨rfl,rfl,rfl,hj.out,hB2⟩
 · have he:=Zfw h1
   rw [if_neg h1,decide_eq_false h1]at H1
   have e3:(l== [47])=false:=by
    have:l≠ [47]:=fun e=>h1 (by rw [e];rfl)
    simpa using this
   have he':Hid (spE l=45):=he
   clear he h1
   go_enter Tryz.func15,Tryz.ntmps15
   go_wp2
   refine wp_scope_jumps 0 (JmpS l w) (fun _ _=>0) rfl ?_ ?_
   · go_wp2_with (first
     | (go_at_call 42;refine(H1 _).mono ?_;rintro e u ⟨rfl,rfl⟩))
     go_step3
     exact⟨rfl,rfl,rfl,he'.out,Below.refl _ _⟩
   · intro a' u ⟨f1,f2,f3,f4⟩
     obtain⟨t,d⟩:=a'
     obtain⟨vv0,vv1,vv2,vv3,vv4,vv5,vv6,vv7,vv8,vv9,vv10,vv11,vv12,vv13,vv14,vv15,vv16,vv17,vv18,vv19,vv20,vv21,vv22,vv23,vv24,vv25,vv26,vv27,vv28,vv29,vv30,vv31,vv32,vv33,vv34,vv35,vv36,vv37,rfl⟩:=fr38 t f1
     obtain rfl:d= []:=f2
     have f5:Hid (spE l=45):=f3
     clear f3
     go_wp2
     rw [Z4v]
     go_returns
     exact⟨Z3h _ _ 45 f5.out (by decide),f4⟩
end Go.Proofs.YtdnjddpfcgginaaGreat
