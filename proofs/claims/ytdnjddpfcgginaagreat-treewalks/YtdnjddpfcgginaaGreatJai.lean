/-
  Texts of my own, joined: no statement is proved here.
-/
import Derived.SliceStrings
import Derived.Laws.IdiomStrings
import Derived.Deep.RegionLaw
import Derived.Shelf.Small.Wraps
import Derived.Shelf.Slices.Equal
import Derived.Shelf.Slices.Empties2
import Derived.Shelf.Strings.Search1
import Derived.Shelf.Strings.Search2
import Derived.Shelf.Strings.OnBuilder
import Derived.Test.YtdnjddpfcgginaaGreatRows
import Derived.Shelf.SlGeneric
import Derived.Shelf.Sort.Plain
import Derived.Shelf.Slices.In.SortNone
import Derived.Shelf.SlIter.Sorted
import Derived.Shelf.SlIter.Keys
import Derived.Shelf.SlIter.Nil
import Derived.Shelf.SlMaps.Clone
import Derived.Test.YtdnjddpfcgginaaGreatJah
set_option linter.unusedSimpArgs false
set_option linter.unusedVariables false
namespace Go.Proofs.YtdnjddpfcgginaaGreat
open Go.ChangeShapes Go.WideShapes Go.ChangeAt Go.RowKit
theorem Z2t:Srt 108 3 Fl.zero.cs:=
 ⟨⟨_,Tryz.underlying108,rfl⟩,by kernel_rfl,fun w=>(zero_of_info (v:= .agg Fl.zero.cs.toArray) (n:=3) (by kernel_rfl)).1 w,rfl,Fl.zero.cs_one⟩
section
variable {ops : Array Oper} {rest : List Oper} {o : Oper} {a : Act} {w : World} {Q : Exit → Act → World → Prop}
theorem Z0x (hw:Region.wanted o (yielded ops a.tmps)=true) (ho:o.op= .alloc 108)
 (h:∀ g w',w.heap.size≤g→g < w'.heap.size→Cs w' g Fl.zero.cs→Below w.heap.size w w'→wpList Tryz.prog ops Q rest (a.put o.dst (.pointer (some ⟨g,0,none⟩))) w'):wpList Tryz.prog ops Q (o::rest) a w:=
 Z1o 108 3 _ Z2t hw ho h
theorem Z5q (hw:Region.wanted o (yielded ops a.tmps)=true) (y:Operand) (ho:o.op= .load 108 y) (g:Nat) (hx:a.eval y= .pointer (some ⟨g,0,none⟩)) (f:Fl) (hR:Cs w g f.cs)
 (h:wpList Tryz.prog ops Q rest (a.put o.dst (.agg f.cs.toArray)) w):wpList Tryz.prog ops Q (o::rest) a w:=
 Z0k 108 3 _ Z2t hw y ho g hx f.cs hR rfl h
theorem Z10 (hw:Region.wanted o (yielded ops a.tmps)=true) (y z:Operand) (ho:o.op= .store 108 y z) (g:Nat) (hx:a.eval y= .pointer (some ⟨g,0,none⟩)) (f:Fl) (hy:a.eval z= .agg f.cs.toArray) (cs:List Value) (hR:Cs w g cs) (hl:cs.length=3)
 (h:∀ w',Cs w' g f.cs→Stp (fun x=>x=g) w w'→wpList Tryz.prog ops Q rest (a.put o.dst undef) w'):wpList Tryz.prog ops Q (o::rest) a w:=
 Z1g 108 3 _ Z2t hw y z ho g hx f.cs hy rfl f.cs_one cs hR hl h
end
theorem Z0o {w:World} {U:Nat→Prop} {g:Nat} {t:FT} (h:Fd w U g t) (x:Int):
 Calls Tryz.prog 65 #[.pointer (some ⟨g,0,none⟩), .int .i64 x] w fun e w'=>e= .returned (.tuple #[.agg (Z01 t x).cs.toArray, .int .i64 (Z04 t x)])∧Below w.heap.size w w':=by
 obtain⟨q,h⟩:=h
 cases hh:Z0u t x with
 | none=>
   have e1:Z01 t x=Fl.zero:=by unfold Z01;rw [hh];rfl
   have e2:Z04 t x=46:=by unfold Z04;rw [hh];rfl
   rw [e1,e2]
   have hA:=fun w' (b:Below w.heap.size w w')=>Z7n (h.later b) x hh
   clear e1 e2
   go_enter Tryz.func65,Tryz.ntmps65
   go_wp2_with (first
    | (refine Z0x (by rfl) (by rfl) ?_;intro g1 w1 a1 a2 r1 b1)
    | (go_at_call 108;refine(hA _ b1).mono ?_;rintro e u ⟨rfl,rfl⟩;clear hA)
    | (refine Z10 (by rfl) _ _ (by rfl) g1 (by rfl) Fl.zero (by rfl) _ r1 rfl ?_;intro w2 r2 s2))
   exact bodyPost_ret (Z0d Z2t Tryz.results65 rfl rfl r2 rfl) rfl ⟨rfl,((Stp.of_below b1 (fun _=>False)).next s2 (fun x e=> .inr (by omega))).below (Nat.le_refl _) (fun _ h=>h.elim)⟩
 | some f=>
   obtain ⟨k,hk,rfl⟩:∃ k:Nat,k < 8∧x=(k:Int):=by
    unfold Z0u at hh
    split at hh
    · exact⟨x.toNat,by omega,by omega⟩
    · cases hh
   have e1:Z01 t (k:Int)=f:=by unfold Z01;rw [hh];rfl
   have e2:Z04 t (k:Int)=0:=by unfold Z04;rw [hh];rfl
   rw [e1,e2]
   rw [Z29 hk]at hh
   have hA:=fun w' (b:Below w.heap.size w w')=>Z5e (h.later b) k hk hh
   have hF:=fun w' (b:Below w.heap.size w w')=>((h.later b).fl k f hk hh).2.2
   clear e1 e2
   go_enter Tryz.func65,Tryz.ntmps65
   go_wp2_with (first
    | (refine Z0x (by rfl) (by rfl) ?_;intro g1 w1 a1 a2 r1 b1)
    | (go_at_call 108;refine(hA _ b1).mono ?_;rintro e u ⟨rfl,rfl⟩;clear hA)
    | (refine Z5q (by rfl) _ (by rfl) (q k) (by rfl) f (hF _ b1) ?_)
    | (refine Z10 (by rfl) _ _ (by rfl) g1 (by rfl) f (by rfl) _ r1 rfl ?_;intro w2 r2 s2))
   exact bodyPost_ret (Z0d Z2t Tryz.results65 rfl rfl r2 rfl) rfl ⟨rfl,((Stp.of_below b1 (fun _=>False)).next s2 (fun x e=> .inr (by omega))).below (Nat.le_refl _) (fun _ h=>h.elim)⟩
theorem Z4o {w:World} {U:Nat→Prop} {g:Nat} {t:FT} (h:Fd w U g t) (x:Int):
 Calls Tryz.prog 100 #[.pointer (some ⟨g,0,none⟩), .int .i64 x] w fun e w'=>e= .returned (.tuple #[.agg (Z01 t x).cs.toArray, .int .i64 (Z04 t x)])∧Fd w' U g (Z13 t x)∧Stp U w w':=by
 obtain⟨q,h⟩:=h
 have hgl:=h.row.lt
 cases hh:Z0u t x with
 | none=>
   have e1:Z01 t x=Fl.zero:=by unfold Z01;rw [hh];rfl
   have e2:Z04 t x=46:=by unfold Z04;rw [hh];rfl
   have e3:Z13 t x=t:=by unfold Z13;rw [hh]
   rw [e1,e2,e3]
   have hA:=fun w' (b:Below w.heap.size w w')=>Z7n (h.later b) x hh
   clear e1 e2 e3
   go_enter Tryz.func100,Tryz.ntmps100
   go_wp2_with (first
    | (refine Z0x (by rfl) (by rfl) ?_;intro g1 w1 a1 a2 r1 b1)
    | (go_at_call 108;refine(hA _ b1).mono ?_;rintro e u ⟨rfl,rfl⟩;clear hA)
    | (refine Z10 (by rfl) _ _ (by rfl) g1 (by rfl) Fl.zero (by rfl) _ r1 rfl ?_;intro w2 r2 s2))
   have B:Below w.heap.size w w2:=((Stp.of_below b1 (fun _=>False)).next s2 (fun x e=> .inr (by omega))).below (Nat.le_refl _) (fun _ h=>h.elim)
   exact bodyPost_ret (Z0d Z2t Tryz.results100 rfl rfl r2 rfl) rfl ⟨rfl,⟨q,h.later B⟩,Stp.of_below B U⟩
 | some f=>
   obtain ⟨k,hk,rfl⟩:∃ k:Nat,k < 8∧x=(k:Int):=by
    unfold Z0u at hh
    split at hh
    · exact⟨x.toNat,by omega,by omega⟩
    · cases hh
   have e1:Z01 t (k:Int)=f:=by unfold Z01;rw [hh];rfl
   have e2:Z04 t (k:Int)=0:=by unfold Z04;rw [hh];rfl
   have e3:Z13 t (k:Int)=fdUp t k none:=by unfold Z13;rw [hh];simp
   rw [e1,e2,e3]
   rw [Z29 hk]at hh
   have hA:=fun w' (b:Below w.heap.size w w')=>Z5e (h.later b) k hk hh
   have a0:(0:Int)≤(k:Int):=by omega
   have a1:(k:Int) < 8:=by omega
   have tk:Hid True:=trivial
   clear e1 e2 e3
   go_enter Tryz.func100,Tryz.ntmps100
   go_wp2_with (first
    | (refine Z0x (by rfl) (by rfl) ?_;intro g1 w1 z1 z2 r1 b1
       have h1:=h.later b1
       have c1:=h1.at1 hk hh
       have f1:=h1.row.fz k
       have c2:=(h1.fl k f hk hh).2.2.step ((Stp.refl (fun x=>x=g) w1).setCell (p:=⟨g,k,none⟩) (.inl rfl) (.pointer none)) (fun e=>(h1.fl k f hk hh).2.1 e))
    | (go_at_call 108;refine(hA _ b1).mono ?_;rintro e u ⟨rfl,rfl⟩;clear hA)
    | (refine Z5q (by rfl) _ (by rfl) (q k) (by rfl) f c2 ?_)
    | (refine Z10 (by rfl) _ _ (by rfl) g1 (by rfl) f (by rfl) _ (r1.step ((Stp.refl (fun x=>x=g) w1).setCell (p:=⟨g,k,none⟩) (.inl rfl) (.pointer none)) (fun e=>by have e:g1=g:=e;omega)) rfl ?_;intro w2 r2 s2))
   have H2:=(h1.free (i:=k)).step s2 (fun x hx e=>by have:=h.low x hx;omega)
   refine bodyPost_ret (Z0d Z2t Tryz.results100 rfl rfl r2 rfl) rfl ⟨rfl,⟨q,H2⟩,?_⟩
   exact((Stp.of_below b1 U).setCell (p:=⟨g,k,none⟩) (.inl h.u) _).next s2 (fun x e=> .inr (by omega))
theorem Z3h {w:World} {U:Nat→Prop} {g:Nat} {t:FT} (h:Fd w U g t) (x p:Int):
 Calls Tryz.prog 103 #[.pointer (some ⟨g,0,none⟩), .int .i64 x, .int .i64 p] w fun e w'=>e= .returned (.int .i64 (Z0w t x p))∧Fd w' U g (Z0f t x p)∧Stp U w w':=by
 obtain⟨q,h⟩:=h
 cases hh:Z0u t x with
 | none=>
   have e2:Z0w t x p=46:=by unfold Z0w;rw [hh];rfl
   have e3:Z0f t x p=t:=by unfold Z0f;rw [hh]
   rw [e2,e3]
   have hA:=Z7n h x hh
   clear e2 e3
   go_enter Tryz.func103,Tryz.ntmps103
   go_wp2_with (go_at_call 108;refine hA.mono ?_;rintro e u ⟨rfl,rfl⟩;clear hA)
   go_returns
   exact⟨rfl,⟨q,h⟩,Stp.refl _ _⟩
 | some f=>
   obtain ⟨k,hk,rfl⟩:∃ k:Nat,k < 8∧x=(k:Int):=by
    unfold Z0u at hh
    split at hh
    · exact⟨x.toNat,by omega,by omega⟩
    · cases hh
   by_cases hp:p < 0
   · have e2:Z0w t (k:Int) p=2:=by unfold Z0w;rw [hh];simp [hp]
     have e3:Z0f t (k:Int) p=t:=by unfold Z0f;rw [hh];simp [hp]
     rw [e2,e3]
     rw [Z29 hk]at hh
     have hA:=Z5e h k hk hh
     clear e2 e3
     go_enter Tryz.func103,Tryz.ntmps103
     go_wp2_with (go_at_call 108;refine hA.mono ?_;rintro e u ⟨rfl,rfl⟩;clear hA)
     go_returns
     exact⟨rfl,⟨q,h⟩,Stp.refl _ _⟩
   · have e2:Z0w t (k:Int) p=0:=by unfold Z0w;rw [hh];simp [hp]
     have e3:Z0f t (k:Int) p=fdUp t k (some ⟨f.i,p,f.m⟩):=by unfold Z0f;rw [hh];simp [hp]
     rw [e2,e3]
     rw [Z29 hk]at hh
     have hA:=Z5e h k hk hh
     obtain⟨h1,h2,h3⟩:=h.fl k f hk hh
     have c1:=h3.cell 1 _ (show f.cs[1]? =some (.int .i64 f.p)from rfl)
     have f1:=h3.frozen 1
     clear e2 e3
     go_enter Tryz.func103,Tryz.ntmps103
     go_wp2_with (go_at_call 108;refine hA.mono ?_;rintro e u ⟨rfl,rfl⟩;clear hA)
     go_returns
     exact⟨rfl,⟨q,h.pos hk hh p⟩,(Stp.refl U w).setCell (p:=⟨q k,1,none⟩) (.inl h1) _⟩
theorem Z44 {w:World} {U:Nat→Prop} {g:Nat} {t:FT} (h:Fd w U g t) (x m:Int):
 Calls Tryz.prog 99 #[.pointer (some ⟨g,0,none⟩), .int .i64 x, .int .i64 m] w fun e w'=>e= .returned (.tuple #[.int .i64 (Z16 t), .int .i64 (Z19 t)])∧FdG U g (Z0g t x m) w w':=by
 have hF:=Z6x h
 obtain⟨q,h⟩:=h
 by_cases h8:fdFr t=8
 · have e1:Z16 t=0:=by unfold Z16;rw [if_pos h8]
   have e2:Z19 t=47:=by unfold Z19;rw [if_pos h8]
   have e3:Z0g t x m=t:=by unfold Z0g;rw [if_pos h8]
   rw [e1,e2,e3]
   rw [h8]at hF
   clear e1 e2 e3 h8
   go_enter Tryz.func99,Tryz.ntmps99
   go_wp2_with (go_at_call 131;refine hF.mono ?_;rintro e u ⟨rfl,rfl⟩;clear hF)
   go_returns
   exact⟨rfl,U,⟨q,h⟩,Stp.refl _ _,Grew.refl _ _ _⟩
 · have e1:Z16 t=(fdFr t:Int):=by unfold Z16;rw [if_neg h8]
   have e2:Z19 t=0:=by unfold Z19;rw [if_neg h8]
   have e3:Z0g t x m=fdUp t (fdFr t) (some ⟨x,0,m⟩):=by unfold Z0g;rw [if_neg h8]
   rw [e1,e2,e3]
   have hn:=Zak h8
   have hl:=Zdg t
   generalize fdFr t=k at *
   have hk:k < 8:=by omega
   have a0:(0:Int)≤(k:Int):=by omega
   have a1:(k:Int) < 8:=by omega
   have a2:¬(k:Int)=8:=by omega
   have hgl:=h.row.lt
   clear e1 e2 e3 h8 hl
   go_enter Tryz.func99,Tryz.ntmps99
   go_wp2_with (first
    | (go_at_call 131;refine hF.mono ?_;rintro e u ⟨rfl,rfl⟩;clear hF)
    | (refine Z2n 108 (by rfl) _ (by rfl) (Fl.mk x 0 m).cs (by rfl) (Fl.cs_one _) ?_;intro b w1 z1 z2 r1 b1
       have h1:=h.later b1
       have c1:=h1.at0 hk hn
       have f1:=h1.row.fz k))
   go_returns
   have hb:¬U b:=fun e=>by have:=h.low b e;omega
   refine⟨rfl,_,⟨_,h1.put hk r1 hb⟩,(Stp.of_below b1 U).setCell (p:=⟨g,k,none⟩) (.inl h.u) _,fun y hy=>?_⟩
   rcases hy with e | e
   · exact .inl e
   · exact .inr ⟨by rw [e];exact z1,by rw [e];simpa using z2⟩
def LiR (w:World) (l:List Int) (v:Value) (w':World):Prop:=OwV w' v l∧New w.heap.size v∧Below w.heap.size w w'
theorem LiR.app {u wr w':World} {l:List Int} {v v':Value} {y:Int} (h:LiR u l v wr) (hA:Apd wr u.heap.size 3 1 v l.length 1 (l.map (Value.int .i64)++ [.int .i64 y]) v' w'):LiR u (l++ [y]) v' w':=by
 obtain⟨o,n,b⟩:=h
 obtain⟨h1,h2,h3,h4,_⟩:=hA
 refine⟨?_,h2,((Stp.of_below b (fun _=>False)).next h4 (fun x e=> .inr (n x e))).below (Nat.le_refl _) (fun _ h=>h.elim)⟩
 unfold OwV
 simpa using h1
theorem LiR.later {u wr w':World} {l:List Int} {v:Value} (h:LiR u l v wr) (b:Below wr.heap.size wr w'):LiR u l v w':=⟨h.1.later b,h.2.1,Z00q h.2.2 b (Nat.le_refl _)⟩
theorem arr8:(Tryz.prog.info? 92).map (·.size)=some 8:=by kernel_rfl
theorem Z8e (F:Nat→Value) (w:World) {k:Nat} (hk:k < 8):(Instr.index 92 (.agg ((List.range 8).map F).toArray) (.int .i64 (k:Int))).run Tryz.prog w= .ok (F k) w:=by
 obtain rfl | rfl | rfl | rfl | rfl | rfl | rfl | rfl:k=0∨k=1∨k=2∨k=3∨k=4∨k=5∨k=6∨k=7:=by omega
 all_goals kernel_rfl
section
variable {ops : Array Oper} {rest : List Oper} {o : Oper} {a : Act} {w : World} {Q : Exit → Act → World → Prop}
theorem Z92 (hw:Region.wanted o (yielded ops a.tmps)=true) (x y:Operand) (ho:o.op= .index 92 x y) (F:Nat→Value) (k:Nat) (hk:k < 8) (hx:a.eval x= .agg ((List.range 8).map F).toArray) (hy:a.eval y= .int .i64 (k:Int))
 (h:wpList Tryz.prog ops Q rest (a.put o.dst (F k)) w):wpList Tryz.prog ops Q (o::rest) a w:=by
 refine Z11 hw _ _ ?_ h
 simp only [execOp,ho,hx,hy,Sem.run_bind,Z8e F w hk];rfl
theorem Ze7 (hw:Region.wanted o (yielded ops a.tmps)=true) (x:Operand) (ho:o.op= .load 92 x) (g:Nat) (hx:a.eval x= .pointer (some ⟨g,0,none⟩)) (F:Nat→Value) (hR:Rfn w g 8 F)
 (h:wpList Tryz.prog ops Q rest (a.put o.dst (.agg ((List.range 8).map F).toArray)) w):wpList Tryz.prog ops Q (o::rest) a w:=
 Zd0 92 8 ⟨_,Tryz.underlying92,rfl⟩ arr8 hw x ho g 0 hx _ hR _ (by rw [List.drop_zero,List.take_of_length_le (by simp)]) (by simp) h
end
theorem Z55 {w:World} {U:Nat→Prop} {g:Nat} {t:FT} (h:Fd w U g t):
 Calls Tryz.prog 18 #[.pointer (some ⟨g,0,none⟩)] w fun e w'=>∃ v,e= .returned v∧LiR w (fdUs t 8) v w':=by
 obtain⟨q,h⟩:=h
 have hr:=h.row
 have hidx:=fun k (hk:k < 8)=>Z8e (pv t q) w hk
 go_enter Tryz.func18,Tryz.ntmps18
 go_wp2_with (refine Ze7 (by rfl) _ (by rfl) g (by rfl) (pv t q) hr ?_)
 go_loopw [3,12] (fun v x wr=>∃ (k:Nat) (sv:Sv),k≤8∧x= .int .i64 (k:Int)∧v= .slice sv.a sv.n sv.c∧LiR w (fdUs t k) (.slice sv.a sv.n sv.c) wr) (fun _ x _=>8 - (intOf x).toNat)
 case atStart=>exact⟨0,Sv.nil,Nat.zero_le _,rfl,rfl,OwV.nil w,(fun r e=>by cases e),Below.refl _ _⟩
 case round=>
  obtain⟨k,sv,hk,rfl,rfl,I⟩:=hrel
  have hln:=Z3t t k
  have hu:w.heap.size≤wr.heap.size:=I.2.2.size
  by_cases hlt:(k:Int) < 8
  · have hk8:k < 8:=by omega
    obtain⟨l,hl⟩:∃ l,Hid (fdUs t k=l):=⟨_,rfl⟩
    rw [hl.out]at I hln
    cases ht:t k with
    | none=>
      have hL:fdUs t (k+1)=l:=by unfold fdUs;rw [hl.out,ht];simp
      have hL':Hid (fdUs t (k+1)=l):=hL
      obtain⟨pk,hpk⟩:∃ pk,Hid (pv t q k=pk):=⟨_,rfl⟩
      have hp2:pk= .pointer none:=by rw [← hpk.out,Z9g ht]
      clear hL
      go_wp2_with (refine Z92 (by rfl) _ _ (by rfl) (pv t q) k hk8 (by rfl) (by rfl) ?_;rw [hpk.out];subst hp2)
      go_roundw
      case rel=>exact⟨k+1,sv,by omega,by go_num,rfl,by rw [hL'.out];exact I⟩
      case measure=>simp [intOf];omega
    | some f=>
      have hL:fdUs t (k+1)=l++ [(k:Int)]:=by unfold fdUs;rw [hl.out,ht];simp
      have hL':Hid (fdUs t (k+1)=l++ [(k:Int)]):=hL
      obtain⟨pk,hpk⟩:∃ pk,Hid (pv t q k=pk):=⟨_,rfl⟩
      have hp2:pk= .pointer (some ⟨q k,0,none⟩):=by rw [← hpk.out,Z9h ht]
      have hbig:l.length+1≤1000000:=by omega
      clear hL
      go_wp2_with (first
       | (refine Z92 (by rfl) _ _ (by rfl) (pv t q) k hk8 (by rfl) (by rfl) ?_;rw [hpk.out];subst hp2)
       | (at_builtin;refine Z39 elI w.heap.size rfl _ _ (by rfl) (by rfl) (I.later ((Below.refl _ wr).alloc (Nat.le_refl _) _)).1 I.2.1 (some ⟨wr.heap.size,0,none⟩) 1 [.int .i64 (k:Int)] (by rfl) (by simp) (fun e=>by cases e) (fun ad e=>by injection e with e;subst e;exact cell_one_new _ _ _) (by simp [Value.oneCell']) hbig (Nat.le_trans hu (by simp)) ?_;intro v' w9 hA
          have I9:=(I.later ((Below.refl _ wr).alloc (Nat.le_refl _) _)).app hA
          obtain⟨xa,xn,xc,rfl⟩:=I9.1.shape
          clear hA))
      go_roundw
      case rel=>exact⟨k+1,⟨xa,xn,xc⟩,by omega,by go_num,rfl,by rw [hL'.out];exact I9⟩
      case measure=>simp [intOf];omega
  · have hk8:k=8:=by omega
    subst hk8
    go_wp2
    go_returns
    exact⟨_,rfl,I⟩
theorem Z6y {w:World} {U:Nat→Prop} {g:Nat} {t:FT} (h:Fd w U g t):
 Calls Tryz.prog 96 #[.pointer (some ⟨g,0,none⟩)] w fun e w'=>e= .returned (.bool (decide ((fdFr t:Int)=8)))∧w=w':=by
 have hF:=Z6x h
 obtain⟨n,hn⟩:∃ n:Nat,Hid (fdFr t=n):=⟨_,rfl⟩
 rw [hn.out]at hF ⊢
 go_enter Tryz.func96,Tryz.ntmps96
 go_wp2_with (go_at_call 131;refine hF.mono ?_;rintro e u ⟨rfl,rfl⟩;clear hF)
 go_returns
 refine⟨?_,rfl⟩
 have e:((n:Int)==8)=decide ((n:Int)=8):=by rw [Bool.eq_iff_iff];simp
 simp [e]
theorem Z4p {w:World} {U:Nat→Prop} {g:Nat} {t:FT} (h:Fd w U g t) (x:Int):
 Calls Tryz.prog 132 #[.pointer (some ⟨g,0,none⟩), .int .i64 x] w fun e w'=>e= .returned (.int .i64 (fdCt t x 8))∧Below w.heap.size w w':=by
 have hU:=Z55 h
 have hcl:=Z95 t x 8
 have hmem:=Z7s t 8
 have hln:=Z3t t 8
 generalize fdUs t 8=l at *
 obtain⟨R,hR⟩:∃ R,Hid (fdCt t x 8=R):=⟨_,rfl⟩
 rw [hR.out]at hcl ⊢
 obtain⟨q,h⟩:=h
 have hcl':Hid _:=hcl
 clear hcl hR
 have hwf:∀ y ∈ l,wfi y:=fun y hy=>by
  obtain⟨j,rfl,hj,_⟩:=hmem y hy
  exact Z2b (by omega)
 go_enter Tryz.func132,Tryz.ntmps132
 go_wp2_with (go_at_call 18;refine hU.mono ?_;rintro e w1 ⟨v,rfl,o1,n1,b1⟩
              obtain⟨⟨sa,sn,sc⟩,rfl,e1,i1, -⟩:=o1.ins hwf n1
              simp only [Sv.v]at e1 ⊢
              subst e1)
 have hc1:=fun i=>(h.later b1).fl i
 have H1:=h.later b1
 clear hU o1 n1
 go_loopw [5,11] (fun n i wr=>∃ k:Nat,k≤l.length∧i= .int .i64 (k:Int)∧∃ z:Int,n= .int .i64 z∧0≤z∧z≤k∧z+fdCl t x (l.drop k)=R∧w1=wr) (fun _ i _=>l.length - (intOf i).toNat)
 case atStart=>exact⟨0,Nat.zero_le _,rfl,0,rfl,by omega,by omega,by rw [List.drop_zero,hcl'.out];omega,rfl⟩
 case round=>
  obtain⟨k,hk,rfl,z,rfl,hz0,hz1,hz2,rfl⟩:=hrel
  have hz2':Hid _:=hz2
  clear hz2
  by_cases hkl:(k:Int) < (l.length:Int)
  · have hkl':k < l.length:=by omega
    obtain⟨bb,o,hbo,hcs⟩:=i1.i.cell (show 0 < l.length by omega)
    simp only at hbo
    subst hbo
    have ck:=hcs k hkl'
    obtain⟨j,hj,hj8,hjs⟩:=hmem (l.getD k 0) (by rw [List.getD_eq_getElem?_getD,List.getElem?_eq_getElem hkl'];exact List.getElem_mem _)
    obtain⟨f,hf⟩:=Option.isSome_iff_exists.1 hjs
    have hd:l.drop k=(j:Int)::l.drop (k+1):=by
     rw [List.drop_eq_getElem_cons hkl',← hj,List.getD_eq_getElem?_getD,List.getElem?_eq_getElem hkl'];rfl
    have hz3:=hz2'.out
    rw [hd,Z54]at hz3
    unfold fdC1 at hz3
    rw [Int.toNat_natCast,hf]at hz3
    simp only at hz3
    rw [hj]at ck
    have c1:=H1.at1 hj8 hf
    obtain⟨u1,u2,u3⟩:=H1.fl j f hj8 hf
    have c2:=u3.cell 0 _ (show f.cs[0]? =some (.int .i64 f.i)from rfl)
    have a0:(0:Int)≤(j:Int):=by omega
    have a1:(j:Int) < 8:=by omega
    have a2:(0:Int)≤(k:Int):=by omega
    clear hd hj hf hjs hcs u1 u2 u3
    by_cases hix:f.i=x
    · rw [if_pos hix]at hz3
      have hz4:Hid _:=hz3
      obtain⟨fi,hfi⟩:∃ fi,Hid (f.i=fi):=⟨_,rfl⟩
      rw [hfi.out]at c2 hix
      subst hix
      clear hz3
      go_wp2
      go_roundw
      case rel=>exact⟨k+1,by omega,by go_num,z+1,by go_num,by omega,by omega,by have:=hz4.out;omega,by simp⟩
      case measure=>simp [intOf];omega
    · rw [if_neg hix]at hz3
      have hz4:Hid _:=hz3
      obtain⟨fi,hfi⟩:∃ fi,Hid (f.i=fi):=⟨_,rfl⟩
      rw [hfi.out]at c2 hix
      clear hz3
      go_wp2
      go_roundw
      case rel=>exact⟨k+1,by omega,by go_num,z,by go_num,by omega,by omega,by have:=hz4.out;omega,by simp⟩
      case measure=>simp [intOf];omega
  · have hk2:k=l.length:=by omega
    subst hk2
    have hz3:=hz2'.out
    rw [List.drop_length]at hz3
    simp only [fdCl]at hz3
    have hz4:Hid (z=R):=by show z=R;omega
    clear hz3
    go_wp2
    go_returns
    exact⟨by have:=hz4.out;subst this;simp,b1⟩
def tV (x:List UInt8):Value:= .string (str x)
structure Sts (w:World) (a:Option Addr) (n c:Nat) (l:List (List UInt8)):Prop where
 len:l.length=n
 le:n≤c
 cap:c≤maxLen
 nil:a=none→c=0
 cell:0 < n→∃ b o,a=some ⟨b,o,none⟩∧∀ i,i < n→w.cell? ⟨b,o+i,none⟩=some (.string (str (l.getD i [])))
section
variable {w w' : World} {a : Option Addr} {n c : Nat} {l : List (List UInt8)} {F : Nat → Prop}
theorem Sts.nilSlice (w:World):Sts w none 0 0 []:=⟨rfl,Nat.le_refl _,by decide,fun _=>rfl,fun h=>absurd h (by omega)⟩
theorem Sts.step (h:Sts w a n c l) (k:Stp F w w') (hF:∀ x:Addr,0 < n→a=some x→¬F x.block):Sts w' a n c l:=
 ⟨h.len,h.le,h.cap,h.nil,fun hn=>by obtain⟨b,o,rfl,hc⟩:=h.cell hn;exact⟨b,o,rfl,fun i hi=>k.cell (hc i hi) (hF ⟨b,o,none⟩ hn rfl)⟩⟩
theorem Sts.later (h:Sts w a n c l) (k:Below w.heap.size w w'):Sts w' a n c l:=h.step (Stp.of_below k (fun _=>False)) (fun _ _ _=>id)
theorem Sts.take (h:Sts w a n c l) (k:Nat) (hk:k≤n):Sts w a k c (l.take k):=by
 have hl:=h.len
 refine⟨by simp;omega,Nat.le_trans hk h.le,h.cap,h.nil,fun hk0=>?_⟩
 obtain⟨b,o,e,hc⟩:=h.cell (by omega)
 refine⟨b,o,e,fun i hi=>?_⟩
 rw [hc i (by omega),List.getD_eq_getElem?_getD,List.getD_eq_getElem?_getD,List.getElem?_take,if_pos hi]
theorem Sts.zero (h:Sts w a n c l) (e:a=none):n=0∧c=0∧l= []:=by
 have h1:=h.nil e
 have h2:=h.le
 have h3:=h.len
 exact⟨by omega,h1,List.eq_nil_of_length_eq_zero (by omega)⟩
theorem Sts.news (h:Sts w a n c l):∀ ad,a=some ad→∀ j u,(l.map tV)[j]? =some u→w.cell? (ad.add j)=some u:=fun ad e j u hu=>by
 have hj:=(List.getElem?_eq_some_iff.1 hu).1
 rw [List.length_map]at hj
 have hl:=h.len
 obtain⟨b,o,e1,hc⟩:=h.cell (by omega)
 rw [e]at e1;injection e1 with e1;subst e1
 rw [Addr.add_lit,hc j (by omega),← hu,List.getElem?_map,List.getElem?_eq_getElem hj,List.getD_eq_getElem?_getD,List.getElem?_eq_getElem hj];rfl
theorem Zfe (l:List (List UInt8)):∀ u ∈ l.map tV,u.oneCell'=true:=fun u hu=>by obtain⟨x,_,rfl⟩:=List.mem_map.1 hu;rfl
end
theorem elT:ElT 30 9 1:=⟨by kernel_rfl,⟨.string ByteArray.empty,16,by kernel_rfl,rfl,by omega⟩,by omega⟩
structure OwT (B:Nat) (w:World) (v:Value) (l:List (List UInt8)):Prop where
 ro:w.ownsRow 0 9 1 v l.length (l.map tV)
 nw:New B v
section
variable {B : Nat} {w w' : World} {v : Value} {l : List (List UInt8)} {F : Nat → Prop}
theorem OwT.none (w:World):OwT B w (.slice none 0 0) []:=⟨⟨rfl, .inl ⟨rfl,rfl⟩⟩,fun r e=>by cases e⟩
theorem OwT.made (w:World) (hB:B≤w.heap.size):OwT B (w.alloc (.cells #[] 9)) (.slice (some ⟨w.heap.size,0,Option.none⟩) 0 0) []:=
 ⟨World.ownsRow_made w #[] 0 (Nat.zero_le _) (Nat.zero_le _) rfl,fun r e=>by
   have:w.heap.size=r:=by simpa [Value.ownBlock]using e
   omega⟩
theorem OwT.later (h:OwT B w v l) (k:Below w.heap.size w w'):OwT B w' v l:=⟨Z5z h.ro k,h.nw⟩
theorem OwT.shape (h:OwT B w v l):∃ a c,v= .slice a l.length c∧Sts w a l.length c l∧∀ x:Addr,a=some x→B≤x.block:=by
 have h0:=h.ro
 rcases h.ro.2 with⟨rfl,h2⟩ | ⟨g,cap,cur,rfl,_,h3,h4,h5,h6,h7⟩
 · obtain rfl:l= []:=List.eq_nil_of_length_eq_zero h2
   exact⟨Option.none,0,rfl,Sts.nilSlice w,fun x e=>by cases e⟩
 · refine⟨_,cap,rfl,⟨rfl,h4,h5,(fun e=>by cases e),fun hn=>⟨g,0,rfl,fun i hi=>?_⟩⟩,fun x e=>by injection e with e;subst e;exact h.nw g rfl⟩
   rw [Nat.zero_add,cell_of_row w g i _ _ (0,0) h3]
   have h1:(cur.toList.take (l.length * 1))[i]? =(l.map tV)[i]?:=by rw [h7]
   rw [Nat.mul_one,List.getElem?_take,if_pos hi,List.getElem?_map,List.getElem?_eq_getElem hi]at h1
   rw [List.getD_eq_getElem?_getD,List.getElem?_eq_getElem hi]
   simpa [tV]using h1
end
theorem Z6j (x:List UInt8) (w:World):(Instr.buildSlice 30 1 #[(0, .string (str x))]).run Tryz.prog w= .ok (.slice (some ⟨w.heap.size,0,none⟩) 1 1) (w.alloc (.cells #[.string (str x)] 9)):=by kernel_rfl
theorem Zbt (w:World):(Instr.buildSlice 30 0 #[]).run Tryz.prog w= .ok (.slice (some ⟨w.heap.size,0,none⟩) 0 0) (w.alloc (.cells #[] 9)):=by kernel_rfl
theorem Ze3 (w:World) (x:List UInt8):Sts (w.alloc (.cells #[.string (str x)] 9)) (some ⟨w.heap.size,0,none⟩) 1 1 [x]:=by
 refine⟨rfl,Nat.le_refl _,by decide,(fun e=>by cases e),fun _=>⟨_,0,rfl,fun i hi=>?_⟩⟩
 obtain rfl:i=0:=by omega
 simp
section
variable {ops : Array Oper} {rest : List Oper} {o : Oper} {a : Act} {w : World} {Q : Exit → Act → World → Prop} {B : Nat} {v : Value} {l l2 : List (List UInt8)}
theorem Z63 (hw:Region.wanted o (yielded ops a.tmps)=true) (x:Operand) (ho:o.op= .buildSlice 30 1 #[(0,x)]) (y:List UInt8) (hx:a.eval x= .string (str y))
 (h:∀ g w',w.heap.size≤g→Sts w' (some ⟨g,0,none⟩) 1 1 [y]→Below w.heap.size w w'→wpList Tryz.prog ops Q rest (a.put o.dst (.slice (some ⟨g,0,none⟩) 1 1)) w'):wpList Tryz.prog ops Q (o::rest) a w:=by
 refine Z11 hw _ _ ?_ (h w.heap.size _ (Nat.le_refl _) (Ze3 w y) ((Below.refl _ _).alloc (Nat.le_refl _) _))
 simp [execOp,ho,hx,Z6j]
theorem Z91 (hw:Region.wanted o (yielded ops a.tmps)=true) (ho:o.op= .buildSlice 30 0 #[]) (hB:B≤w.heap.size)
 (h:∀ g w',OwT B w' (.slice (some ⟨g,0,none⟩) 0 0) []→Below w.heap.size w w'→wpList Tryz.prog ops Q rest (a.put o.dst (.slice (some ⟨g,0,none⟩) 0 0)) w'):wpList Tryz.prog ops Q (o::rest) a w:=by
 refine Z11 hw _ _ ?_ (h w.heap.size _ (OwT.made w hB) ((Below.refl _ _).alloc (Nat.le_refl _) _))
 simp [execOp,ho,Zbt]
theorem Zfi {w':World} {v':Value} (hA:Apd w B 9 1 v l.length l2.length (l.map tV++l2.map tV) v' w') (h0:OwT B w v l):OwT B w' v' (l++l2)∧Stp (fun x=>B≤x) w w':=by
 obtain⟨h1,h2,h3,h4,h5⟩:=hA
 refine⟨⟨?_,h2⟩,h4.mono (fun x e=> .inl (h0.nw x e))⟩
 rw [List.length_append,List.map_append];exact h1
theorem Z5c (B:Nat) (hgd:o.guard=none) (s x:Operand) (ho:o.op= .call { callee:= .builtin .append,args:=#[s,x],argTypes:=#[30,30]}) (hs:a.eval s=v) (h0:OwT B w v l)
 (xa:Option Addr) (m c:Nat) (hx:a.eval x= .slice xa m c) (h2:Sts w xa m c l2) (hbig:l.length+m≤1000000) (hB:B≤w.heap.size)
 (h:∀ v' w',OwT B w' v' (l++l2)→Stp (fun x=>B≤x) w w'→wpList Tryz.prog ops Q rest (a.put o.dst v') w'):wpList Tryz.prog ops Q (o::rest) a w:=by
 have e:=h2.len
 subst e
 refine Z39 elT B hgd s x ho hs h0.ro h0.nw xa c (l2.map tV) hx (by simp) (fun e=>⟨(h2.zero e).1,(h2.zero e).2.1⟩) h2.news (Zfe l2) hbig hB ?_
 intro v' w' hA
 obtain⟨h3,h4⟩:=Zfi hA h0
 exact h v' w' h3 h4
end
end Go.Proofs.YtdnjddpfcgginaaGreat
namespace Go.Proofs
open Go.Shelf
def YtdnjddpfcgginaaGreat.lays103_ren:Go.Shelf.Ren:=⟨fun | 103=>42 | 210=>81 | 206=>114 | n=>n,fun | 9=>9 | 4=>4 | 24=>86 | 3=>3 | n=>n,fun | n=>n⟩
theorem YtdnjddpfcgginaaGreat.lays103:Go.Proofs.Lays.n103 Tryz.prog YtdnjddpfcgginaaGreat.lays103_ren:= {
 mixed:=by kernel_rfl
 f103:=Tryz.func42.trans (congrArg some (by kernel_rfl))
 f206:=Tryz.func114.trans (congrArg some (by kernel_rfl))
 f210:=Tryz.func81.trans (congrArg some (by kernel_rfl))
 t3:=Tryz.underlying3
 a3:=Tryz.isAgg3
 z3:=Tryz.sizeOf3
 v3:=Tryz.zeroValue3
 t4:=Tryz.underlying4
 a4:=Tryz.isAgg4
 z4:=Tryz.sizeOf4
 v4:=Tryz.zeroValue4
 t9:=Tryz.underlying9
 a9:=Tryz.isAgg9
 z9:=Tryz.sizeOf9
 v9:=Tryz.zeroValue9
 t24:=Tryz.underlying86
 a24:=Tryz.isAgg86
 z24:=Tryz.sizeOf86
 v24:=Tryz.zeroValue86}
def YtdnjddpfcgginaaGreat.lays219_ren:Go.Shelf.Ren:=⟨fun | 219=>115 | 217=>136 | 225=>137 | 224=>138 | 267=>139 | 266=>157 | 314=>158 | n=>n,fun | 9=>9 | 3=>3 | 4=>4 | 5=>5 | 46=>133 | 146=>191 | 51=>167 | n=>n,fun | 1=>0 | n=>n⟩
theorem YtdnjddpfcgginaaGreat.lays219:Go.Proofs.Lays.n219 Tryz.prog YtdnjddpfcgginaaGreat.lays219_ren:= {
 mixed:=by kernel_rfl
 f217:=Tryz.func136.trans (congrArg some (by kernel_rfl))
 f219:=Tryz.func115.trans (congrArg some (by kernel_rfl))
 f224:=Tryz.func138.trans (congrArg some (by kernel_rfl))
 f225:=Tryz.func137.trans (congrArg some (by kernel_rfl))
 f266:=Tryz.func157.trans (congrArg some (by kernel_rfl))
 f267:=Tryz.func139.trans (congrArg some (by kernel_rfl))
 f314:=Tryz.func158.trans (congrArg some (by kernel_rfl))
 t3:=Tryz.underlying3
 a3:=Tryz.isAgg3
 z3:=Tryz.sizeOf3
 v3:=Tryz.zeroValue3
 t4:=Tryz.underlying4
 a4:=Tryz.isAgg4
 z4:=Tryz.sizeOf4
 v4:=Tryz.zeroValue4
 t5:=Tryz.underlying5
 a5:=Tryz.isAgg5
 z5:=Tryz.sizeOf5
 v5:=Tryz.zeroValue5
 t9:=Tryz.underlying9
 a9:=Tryz.isAgg9
 z9:=Tryz.sizeOf9
 v9:=Tryz.zeroValue9
 t46:=Tryz.underlying133
 a46:=Tryz.isAgg133
 z46:=Tryz.sizeOf133
 v46:=Tryz.zeroValue133
 t51:=Tryz.underlying167
 a51:=Tryz.isAgg167
 z51:=Tryz.sizeOf167
 v51:=Tryz.zeroValue167
 t146:=Tryz.underlying191
 a146:=Tryz.isAgg191
 z146:=Tryz.sizeOf191
 v146:=Tryz.zeroValue191
 g1:=by kernel_rfl}
def YtdnjddpfcgginaaGreat.lays156_ren:Go.Shelf.Ren:=⟨fun | 156=>51 | 165=>90 | 166=>91 | 169=>92 | 240=>128 | 241=>129 | 276=>145 | 277=>146 | n=>n,fun | 31=>30 | 9=>9 | 3=>3 | 4=>4 | 0=>0 | 20=>20 | 72=>137 | 76=>140 | 70=>135 | 37=>29 | 75=>139 | 127=>170 | 164=>183 | 5=>5 | 80=>142 | n=>n,fun | n=>n⟩
theorem YtdnjddpfcgginaaGreat.lays156:Go.Proofs.Lays.n156 Tryz.prog YtdnjddpfcgginaaGreat.lays156_ren:= {
 mixed:=by kernel_rfl
 f156:=Tryz.func51.trans (congrArg some (by kernel_rfl))
 f165:=Tryz.func90.trans (congrArg some (by kernel_rfl))
 f166:=Tryz.func91.trans (congrArg some (by kernel_rfl))
 f169:=Tryz.func92.trans (congrArg some (by kernel_rfl))
 f240:=Tryz.func128.trans (congrArg some (by kernel_rfl))
 f241:=Tryz.func129.trans (congrArg some (by kernel_rfl))
 f276:=Tryz.func145.trans (congrArg some (by kernel_rfl))
 f277:=Tryz.func146.trans (congrArg some (by kernel_rfl))
 t0:=Tryz.underlying0
 a0:=Tryz.isAgg0
 z0:=Tryz.sizeOf0
 v0:=Tryz.zeroValue0
 t3:=Tryz.underlying3
 a3:=Tryz.isAgg3
 z3:=Tryz.sizeOf3
 v3:=Tryz.zeroValue3
 t4:=Tryz.underlying4
 a4:=Tryz.isAgg4
 z4:=Tryz.sizeOf4
 v4:=Tryz.zeroValue4
 t9:=Tryz.underlying9
 a9:=Tryz.isAgg9
 z9:=Tryz.sizeOf9
 v9:=Tryz.zeroValue9
 t20:=Tryz.underlying20
 a20:=Tryz.isAgg20
 z20:=Tryz.sizeOf20
 v20:=Tryz.zeroValue20
 t31:=Tryz.underlying30
 a31:=Tryz.isAgg30
 z31:=Tryz.sizeOf30
 v31:=Tryz.zeroValue30
 t37:=Tryz.underlying29
 a37:=Tryz.isAgg29
 z37:=Tryz.sizeOf29
 v37:=Tryz.zeroValue29
 t70:=Tryz.underlying135
 a70:=Tryz.isAgg135
 z70:=Tryz.sizeOf135
 v70:=Tryz.zeroValue135
 t72:=Tryz.underlying137
 a72:=Tryz.isAgg137
 z72:=Tryz.sizeOf137
 v72:=Tryz.zeroValue137
 t75:=Tryz.underlying139
 a75:=Tryz.isAgg139
 z75:=Tryz.sizeOf139
 v75:=Tryz.zeroValue139
 t76:=Tryz.underlying140
 a76:=Tryz.isAgg140
 z76:=Tryz.sizeOf140
 v76:=Tryz.zeroValue140
 t127:=Tryz.underlying170
 a127:=Tryz.isAgg170
 z127:=Tryz.sizeOf170
 v127:=Tryz.zeroValue170
 t164:=Tryz.underlying183
 a164:=Tryz.isAgg183
 z164:=Tryz.sizeOf183
 v164:=Tryz.zeroValue183}
def YtdnjddpfcgginaaGreat.lays193_ren:Go.Shelf.Ren:=⟨fun | 193=>160 | n=>n,fun | 31=>30 | 9=>9 | 4=>4 | 3=>3 | 0=>0 | n=>n,fun | n=>n⟩
theorem YtdnjddpfcgginaaGreat.lays193:Go.Proofs.Lays.n193 Tryz.prog YtdnjddpfcgginaaGreat.lays193_ren:= {
 mixed:=by kernel_rfl
 f193:=Tryz.func160.trans (congrArg some (by kernel_rfl))
 t0:=Tryz.underlying0
 a0:=Tryz.isAgg0
 z0:=Tryz.sizeOf0
 v0:=Tryz.zeroValue0
 t3:=Tryz.underlying3
 a3:=Tryz.isAgg3
 z3:=Tryz.sizeOf3
 v3:=Tryz.zeroValue3
 t4:=Tryz.underlying4
 a4:=Tryz.isAgg4
 z4:=Tryz.sizeOf4
 v4:=Tryz.zeroValue4
 t9:=Tryz.underlying9
 a9:=Tryz.isAgg9
 z9:=Tryz.sizeOf9
 v9:=Tryz.zeroValue9
 t31:=Tryz.underlying30
 a31:=Tryz.isAgg30
 z31:=Tryz.sizeOf30
 v31:=Tryz.zeroValue30}
end Go.Proofs
namespace Go.Proofs.YtdnjddpfcgginaaGreat
open Go.ChangeShapes Go.WideShapes Go.ChangeAt Go.RowKit
theorem Z9l (l:List UInt8) (i j:Nat):(str l).extract i j=str ((l.take j).drop i):=by
 apply ByteArray.ext
 unfold str;simp [List.drop_take]
theorem Z40 (l:List UInt8):(str l).data.toList=l:=by unfold str;simp
def ctA (l:List UInt8):List UInt8:=if Lib.indexByte l 47= -1 then l else l.take (Lib.indexByte l 47).toNat
def ctB (l:List UInt8):List UInt8:=if Lib.indexByte l 47= -1 then []else l.drop ((Lib.indexByte l 47).toNat+1)
def ctF (l:List UInt8):Bool:=decide (Lib.indexByte l 47≠ -1)
set_option maxRecDepth 100000 in
theorem Z31 (l:List UInt8) (w:World) (hl:l.length≤100000):Calls Tryz.prog 43 #[.string (str l), .string ⟨#[47]⟩] w fun e w'=>e= .returned (.tuple #[.string (str (ctA l)), .string (str (ctB l)), .bool (ctF l)])∧Below w.heap.size w w':=by
 have H:=Any.stringslite_Index_one YtdnjddpfcgginaaGreat.lays219 (str l) 47 w
 have H':Calls Tryz.prog 115 #[.string (str l), .string ⟨#[47]⟩] w fun e w'=>e= .returned (.int .i64 (Lib.indexByte l 47))∧w'=w:=by
  have:=Z40 l
  rw [this]at H
  exact H
 clear H
 have hz:=Z1d l
 unfold ctA ctB ctF
 have hS:=Z9l l
 rcases Z6o l with⟨h1,_⟩ | ⟨i,h1,h2,_⟩
 · rw [h1]at H' ⊢
   rw [if_pos rfl,if_pos rfl]
   go_enter Tryz.func43,Tryz.ntmps43
   go_wp2_with (first
    | (go_at_call 115;refine H'.mono ?_;rintro e w' ⟨rfl,rfl⟩)
    | go_in)
   go_returns
   exact⟨rfl,Below.refl _ _⟩
 · rw [h1]at H' ⊢
   have hne:¬(i:Int)= -1:=by omega
   rw [if_neg hne,if_neg hne]
   have e1:=hS 0 i
   have e2:=hS (i+1) l.length
   rw [List.take_length]at e2
   rw [List.drop_zero]at e1
   have c1:(i:Int)≤l.length:=by omega
   have c2:(i:Int)+1≤l.length:=by omega
   have c3:IntKind.i64.wrap ((i:Int)+1)=(i:Int)+1:=by rw [IntKind.wrap_i64];omega
   have c4:((i:Int)+1).toNat=i+1:=by omega
   have c5:(0:Int)≤(i:Int)+1:=by omega
   clear hS
   have a0:((i:Int)).toNat=i:=by omega
   rw [a0]
   go_enter Tryz.func43,Tryz.ntmps43
   go_wp2_with (first
    | (go_at_call 115;refine H'.mono ?_;rintro e w' ⟨rfl,rfl⟩)
    | go_in)
   go_region
   go_wp2
   go_returns
   exact⟨by simp,(Below.refl _ _).drew⟩
theorem Zc6 (l:List UInt8) (w:World):Calls Tryz.prog 42 #[.string (str l), .string ⟨#[47]⟩] w fun e w'=>e= .returned (.tuple #[.string (str (if l.head? =some 47 then l.tail else l)), .bool (decide (l.head? =some 47))])∧w=w':=by
 refine(Any.strings_CutPrefix YtdnjddpfcgginaaGreat.lays103 (str l) ⟨#[47]⟩ w).mono ?_
 rintro e w' ⟨rfl,rfl⟩
 refine⟨?_,rfl⟩
 rw [Z40]
 cases l with
 | nil=>rfl
 | cons b r=>
   by_cases hb:b=47
   · subst hb
     simp [Lib.trimPrefix,Lib.hasPrefix,str]
   · have hb':¬(47:UInt8)=b:=fun e=>hb e.symm
     have hp: [(47:UInt8)].isPrefixOf (b::r)=false:=by simp [List.isPrefixOf,hb']
     simp [Lib.trimPrefix,Lib.hasPrefix,str,hb,hp]
end Go.Proofs.YtdnjddpfcgginaaGreat
namespace Go.Proofs
open Go.Shelf
def YtdnjddpfcgginaaGreat.lays190_ren:Go.Shelf.Ren:=⟨fun | 190=>112 | 125=>86 | 258=>135 | 128=>125 | 129=>126 | 302=>148 | 303=>149 | 304=>150 | 305=>151 | 306=>152 | 307=>153 | 308=>154 | 309=>155 | 310=>156 | 333=>161 | 329=>141 | 330=>142 | 334=>162 | 335=>163 | 336=>164 | 344=>165 | n=>n,fun | 31=>30 | 9=>9 | 3=>3 | 46=>133 | 0=>0 | 51=>167 | 53=>169 | 4=>4 | 183=>161 | 182=>160 | 131=>124 | 5=>5 | 218=>177 | 222=>181 | 228=>193 | 229=>194 | n=>n,fun | n=>n⟩
theorem YtdnjddpfcgginaaGreat.lays190:Go.Proofs.Lays.n190 Tryz.prog YtdnjddpfcgginaaGreat.lays190_ren:= {
 mixed:=by kernel_rfl
 f125:=Tryz.func86.trans (congrArg some (by kernel_rfl))
 f128:=Tryz.func125.trans (congrArg some (by kernel_rfl))
 f129:=Tryz.func126.trans (congrArg some (by kernel_rfl))
 f190:=Tryz.func112.trans (congrArg some (by kernel_rfl))
 f258:=Tryz.func135.trans (congrArg some (by kernel_rfl))
 f302:=Tryz.func148.trans (congrArg some (by kernel_rfl))
 f303:=Tryz.func149.trans (congrArg some (by kernel_rfl))
 f304:=Tryz.func150.trans (congrArg some (by kernel_rfl))
 f305:=Tryz.func151.trans (congrArg some (by kernel_rfl))
 f306:=Tryz.func152.trans (congrArg some (by kernel_rfl))
 f307:=Tryz.func153.trans (congrArg some (by kernel_rfl))
 f308:=Tryz.func154.trans (congrArg some (by kernel_rfl))
 f309:=Tryz.func155.trans (congrArg some (by kernel_rfl))
 f310:=Tryz.func156.trans (congrArg some (by kernel_rfl))
 f329:=Tryz.func141.trans (congrArg some (by kernel_rfl))
 f330:=Tryz.func142.trans (congrArg some (by kernel_rfl))
 f333:=Tryz.func161.trans (congrArg some (by kernel_rfl))
 f334:=Tryz.func162.trans (congrArg some (by kernel_rfl))
 f335:=Tryz.func163.trans (congrArg some (by kernel_rfl))
 f336:=Tryz.func164.trans (congrArg some (by kernel_rfl))
 f344:=Tryz.func165.trans (congrArg some (by kernel_rfl))
 t0:=Tryz.underlying0
 a0:=Tryz.isAgg0
 z0:=Tryz.sizeOf0
 v0:=Tryz.zeroValue0
 t3:=Tryz.underlying3
 a3:=Tryz.isAgg3
 z3:=Tryz.sizeOf3
 v3:=Tryz.zeroValue3
 t4:=Tryz.underlying4
 a4:=Tryz.isAgg4
 z4:=Tryz.sizeOf4
 v4:=Tryz.zeroValue4
 t5:=Tryz.underlying5
 a5:=Tryz.isAgg5
 z5:=Tryz.sizeOf5
 v5:=Tryz.zeroValue5
 t9:=Tryz.underlying9
 a9:=Tryz.isAgg9
 z9:=Tryz.sizeOf9
 v9:=Tryz.zeroValue9
 t31:=Tryz.underlying30
 a31:=Tryz.isAgg30
 z31:=Tryz.sizeOf30
 v31:=Tryz.zeroValue30
 t46:=Tryz.underlying133
 a46:=Tryz.isAgg133
 z46:=Tryz.sizeOf133
 v46:=Tryz.zeroValue133
 t51:=Tryz.underlying167
 a51:=Tryz.isAgg167
 z51:=Tryz.sizeOf167
 v51:=Tryz.zeroValue167
 t53:=Tryz.underlying169
 a53:=Tryz.isAgg169
 z53:=Tryz.sizeOf169
 v53:=Tryz.zeroValue169
 t131:=Tryz.underlying124
 a131:=Tryz.isAgg124
 z131:=Tryz.sizeOf124
 v131:=Tryz.zeroValue124
 t182:=Tryz.underlying160
 a182:=Tryz.isAgg160
 z182:=Tryz.sizeOf160
 v182:=Tryz.zeroValue160
 t183:=Tryz.underlying161
 a183:=Tryz.isAgg161
 z183:=Tryz.sizeOf161
 v183:=Tryz.zeroValue161
 t218:=Tryz.underlying177
 a218:=Tryz.isAgg177
 z218:=Tryz.sizeOf177
 v218:=Tryz.zeroValue177
 t222:=Tryz.underlying181
 a222:=Tryz.isAgg181
 z222:=Tryz.sizeOf181
 v222:=Tryz.zeroValue181
 t228:=Tryz.underlying193
 a228:=Tryz.isAgg193
 z228:=Tryz.sizeOf193
 v228:=Tryz.zeroValue193
 t229:=Tryz.underlying194
 a229:=Tryz.isAgg194
 z229:=Tryz.sizeOf194
 v229:=Tryz.zeroValue194}
def YtdnjddpfcgginaaGreat.keysT_ren:Go.Shelf.Ren:=⟨fun | 7=>80 | 10=>113 | n=>n,fun | 23=>71 | 26=>9 | 3=>3 | 28=>127 | 0=>0 | 27=>126 | 33=>129 | 4=>4 | n=>n,fun | n=>n⟩
theorem YtdnjddpfcgginaaGreat.keysT:Go.Proofs.SlLaysZ.n7 Tryz.prog YtdnjddpfcgginaaGreat.keysT_ren:= {
 mixed:=by kernel_rfl
 f7:=⟨Tryz.f80.name,by decide,Tryz.func80.trans (congrArg some (by kernel_rfl))⟩
 f10:=⟨Tryz.f113.name,by decide,Tryz.func113.trans (congrArg some (by kernel_rfl))⟩
 t0:=Tryz.underlying0
 a0:=Tryz.isAgg0
 z0:=Tryz.sizeOf0
 v0:=Tryz.zeroValue0
 t4:=Tryz.underlying4
 a4:=Tryz.isAgg4
 z4:=Tryz.sizeOf4
 v4:=Tryz.zeroValue4
 t23:=Tryz.underlying71
 a23:=Tryz.isAgg71
 z23:=Tryz.sizeOf71
 v23:=Tryz.zeroValue71
 t26:=Tryz.underlying9
 a26:=Tryz.isAgg9
 z26:=Tryz.sizeOf9
 v26:=Tryz.zeroValue9
 t27:=Tryz.underlying126
 a27:=Tryz.isAgg126
 z27:=Tryz.sizeOf126
 v27:=Tryz.zeroValue126
 t28:=Tryz.underlying127
 a28:=Tryz.isAgg127
 z28:=Tryz.sizeOf127
 v28:=Tryz.zeroValue127
 t33:=Tryz.underlying129
 a33:=Tryz.isAgg129
 z33:=Tryz.sizeOf129
 v33:=Tryz.zeroValue129}
def YtdnjddpfcgginaaGreat.sortedT_ren:Go.Shelf.Ren:=⟨fun | 6=>79 | 8=>111 | 9=>112 | 11=>134 | 13=>86 | 12=>135 | 23=>125 | 24=>126 | 14=>148 | 15=>149 | 16=>150 | 17=>151 | 18=>152 | 19=>153 | 20=>154 | 21=>155 | 22=>156 | 25=>161 | 26=>141 | 27=>142 | 28=>162 | 29=>163 | 30=>164 | 31=>165 | n=>n,fun | 26=>9 | 28=>127 | 24=>30 | 0=>0 | 3=>3 | 37=>133 | 48=>167 | 50=>169 | 4=>4 | 40=>161 | 39=>160 | 45=>124 | 5=>5 | 9=>9 | 51=>177 | 55=>181 | 57=>193 | 58=>194 | 33=>129 | n=>n,fun | n=>n⟩
theorem YtdnjddpfcgginaaGreat.sortedT:Go.Proofs.SlLaysZ.n6 Tryz.prog YtdnjddpfcgginaaGreat.sortedT_ren:= {
 mixed:=by kernel_rfl
 f6:=⟨Tryz.f79.name,by decide,Tryz.func79.trans (congrArg some (by kernel_rfl))⟩
 f8:=⟨Tryz.f111.name,by decide,Tryz.func111.trans (congrArg some (by kernel_rfl))⟩
 f11:=⟨Tryz.f134.name,by decide,Tryz.func134.trans (congrArg some (by kernel_rfl))⟩
 t0:=Tryz.underlying0
 a0:=Tryz.isAgg0
 z0:=Tryz.sizeOf0
 v0:=Tryz.zeroValue0
 t24:=Tryz.underlying30
 a24:=Tryz.isAgg30
 z24:=Tryz.sizeOf30
 v24:=Tryz.zeroValue30
 t26:=Tryz.underlying9
 a26:=Tryz.isAgg9
 z26:=Tryz.sizeOf9
 v26:=Tryz.zeroValue9
 t28:=Tryz.underlying127
 a28:=Tryz.isAgg127
 z28:=Tryz.sizeOf127
 v28:=Tryz.zeroValue127
 i26:=by kernel_rfl}
end Go.Proofs
