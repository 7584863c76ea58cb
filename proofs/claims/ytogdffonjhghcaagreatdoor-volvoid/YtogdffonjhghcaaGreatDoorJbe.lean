/-
  Texts of my own, joined: no statement is proved here.
-/
import Derived.Test.YtogdffonjhghcaaGreatDoorJbd
set_option linter.unusedSimpArgs false
set_option linter.unusedVariables false
namespace Go.Proofs.YtogdffonjhghcaaGreatDoor
open Go.ChangeShapes Go.WideShapes Go.ChangeAt Go.RowKit
section
variable {ops : Array Oper} {rest : List Oper} {o : Oper} {a : Act} {w : World} {Q : Exit → Act → World → Prop}
theorem at_nextA {b r:Nat} {f:Int→Option Value} {left:Int→Bool} {cnt:Nat} (hw:Region.wanted o (yielded ops a.tmps)=true) (x:Operand) (ho:o.op=Op.next x false)
    (hx:a.eval x= .pointer (some ⟨r,0,none⟩)) (h:RgI Tryz.prog 3 w b r f left cnt) (hsh:∀ k v,f k=some v→∃ (q:Pt) (d n:Sv),v= .agg (q.cs d n).toArray)
    (h0:(∀ k,left k=false)→wpList Tryz.prog ops Q rest (a.put o.dst (.tuple #[.bool false])) w)
    (h1 :∀ k q d n w' cnt',(Lit.int .i64 k).wf=true→left k=true→f k=some (.agg (Pt.cs q d n).toArray)→RgI Tryz.prog 3 w' b r f (fun x=>left x&& !decide (x=k)) cnt'→cnt' < cnt→Stp (fun x=>x=r) w w'→w'.heap.size=w.heap.size→
      (Instr.entry (.pointer (some ⟨r,0,none⟩))).run Tryz.prog w'= .ok (.tuple #[.int .i64 k, .agg (Pt.cs q d n).toArray]) w'→wpList Tryz.prog ops Q rest (a.put o.dst (.tuple #[.bool true, .int .i64 k, .agg (Pt.cs q d n).toArray])) w'):wpList Tryz.prog ops Q (o::rest) a w:=
  at_next' hw x ho hx h h0 (fun k v w' cnt' a1 a2 a3 a4 a5 a6 a7 a8=>by
    obtain⟨q,d,n,rfl⟩:=hsh k v a3
    exact h1 k q d n w' cnt' a1 a2 a3 a4 a5 a6 a7 a8)
end
theorem rising_one:∀ {a b:List Int},a.Pairwise (· < ·)→b.Pairwise (· < ·)→(∀ x,x ∈ a↔x ∈ b)→a=b
  | [], [],_,_,_=>rfl
  | [],y::s,_,_,h=>absurd ((h y).2 (by simp)) (by simp)
  | x::r, [],_,_,h=>absurd ((h x).1 (by simp)) (by simp)
  | x::r,y::s,ha,hb,h=>by
    rw [List.pairwise_cons]at ha hb
    have e:x=y:=by
      rcases List.mem_cons.1 ((h x).1 (by simp))with e | e
      · exact e
      · rcases List.mem_cons.1 ((h y).2 (by simp))with e2 | e2
        · exact e2.symm
        · have:=hb.1 x e;have:=ha.1 y e2;omega
    subst e
    congr 1
    refine rising_one ha.2 hb.2 fun z=>⟨fun hz=>?_,fun hz=>?_⟩
    · rcases List.mem_cons.1 ((h z).1 (List.mem_cons_of_mem _ hz))with e | e
      · have:=ha.1 z hz;omega
      · exact e
    · rcases List.mem_cons.1 ((h z).2 (List.mem_cons_of_mem _ hz))with e | e
      · have:=hb.1 z hz;omega
      · exact e
theorem nodup_le:∀ (L K:List Int),L.Nodup→(∀ x ∈ L,x ∈ K)→L.length≤K.length
  | [],_,_,_=>Nat.zero_le _
  | a::t,K,hn,h=>by
    rw [List.nodup_cons]at hn
    have ha:a ∈ K:=h a (by simp)
    have:=nodup_le t (K.erase a) hn.2 (fun x hx=>(List.mem_erase_of_ne (fun e:x=a=>hn.1 (by rw [← e];exact hx))).2 (h x (List.mem_cons_of_mem _ hx)))
    rw [List.length_erase_of_mem ha]at this
    have:=List.length_pos_of_mem ha
    simp only [List.length_cons];omega
def thP (l:List Pt) (q:Pt→Bool):List Pt:=l.filter q
def prI (l:List Pt) (q:Pt→Bool) (x:Int):Bool:=match fnd l x with | some p=>q p | none=>false
theorem thP_mem {l:List Pt} (hs:l.Pairwise fun a b=>a.id < b.id) {q:Pt→Bool} {x:Int} :x ∈ ids (thP l q)↔prI l q x=true:=by
  unfold ids thP prI
  simp only [List.mem_map,List.mem_filter]
  constructor
  · rintro ⟨p,⟨h1,h2⟩,rfl⟩;rw [fnd_of hs h1];exact h2
  · intro h
    cases hf:fnd l x with
    | none=>rw [hf]at h;cases h
    | some p=>rw [hf]at h;have:=fnd_mem hf;exact⟨p,⟨this.1,h⟩,this.2⟩
theorem ids_rise {l:List Pt} (hs:l.Pairwise fun a b=>a.id < b.id) (q:Pt→Bool):(ids (thP l q)).Pairwise (· < ·):=by
  unfold ids thP;rw [List.pairwise_map];exact hs.filter _
structure ThI (w:World) (mp r:Nat) (l:List Pt) (q:Pt→Bool) (f:Int→Option Value) (v:Value) (wr:World) (left:Int→Bool) (cnt:Nat) (L:List Int):Prop where
  rg:RgI Tryz.prog 3 wr mp r f left cnt
  ow:OwV wr v L
  nw:New (r+1) v
  lt:r < wr.heap.size
  b:Below w.heap.size w wr
  nd:L.Nodup
  few:L.length≤l.length
  mem:∀ x,x ∈ L↔((f x).isSome=true∧left x=false∧prI l q x=true)
def Tells (w:World) (F E:Nat→Prop) (fi:FuncId) (lb:Array Value) (q:Pt→Bool):Prop:=
  ∀ (u:World) (p:Pt) (d n:Sv),Stp F w u→PtM u E p d n→Calls Tryz.prog fi (#[.agg (p.cs d n).toArray]++lb) u fun e u'=>e= .returned (.bool (q p))∧Below u.heap.size u u'
set_option maxRecDepth 100000 in
set_option maxHeartbeats 4000000 in
theorem those_any {w:World} {g mp mw:Nat} {f fw:Int→Option Value} {Z:GZ} {E F:Nat→Prop} (H:Gr w g mp mw f fw Z E F) (fi:FuncId) (lb:Array Value) (q:Pt→Bool) (hq:Tells w F E fi lb q) (eg:∀ args w,(callFunc fi args).run Tryz.prog w= .ok (.enter fi args) w):
    Calls Tryz.prog 120 #[.pointer (some ⟨g,0,none⟩), .func (.func fi) #[] lb] w fun e w'=>∃ v,e= .returned v∧OwV w' v (ids (thP Z.l q))∧New w.heap.size v∧Below w.heap.size w w':=by
  obtain⟨z0,z1,z2⟩:=H.cells
  have hsh:∀ k v,f k=some v→∃ (q:Pt) (d n:Sv),v= .agg (q.cs d n).toArray:=fun k v hv=>by
    cases hl:fnd Z.l k with
    | none=>rw [H.pn k hl]at hv;cases hv
    | some q=>
      obtain⟨d,n,h1,_⟩:=H.ps k q hl
      rw [h1]at hv;injection hv with hv;exact⟨q,d,n,hv.symm⟩
  have hfk:∀ x,prI Z.l q x=true→(f x).isSome=true:=fun x hx=>by
    unfold prI at hx
    cases hl:fnd Z.l x with
    | none=>rw [hl]at hx;cases hx
    | some p=>
      obtain⟨d,n,h1,_⟩:=H.ps x p hl
      rw [h1];rfl
  have hfew:=H.ok.few
  have tok:True:=trivial
  go_enter Tryz.func120,Tryz.ntmps120
  go_wp2_with (first
    | (clear tok;refine at_range' (by rfl) _ (by rfl) (by rfl) (mp_range H.pm uPm) ?_;rintro w2 ⟨cnt,hrg,hk2,hz2⟩))
  go_frame
  obtain⟨r,hr⟩:∃ r,r=w.heap.size:=⟨_,rfl⟩
  rw [← hr]at hrg ⊢
  have start:ThI w mp r Z.l q f (.slice none 0 0) w2 (fun k=>(f k).isSome) cnt []:=
    ⟨hrg,OwV.nil w2,(fun x hx=>by cases hx),by omega,hk2.below (Nat.le_refl _) (fun _ e=>e.elim),List.nodup_nil,Nat.zero_le _,fun x=>⟨fun h=>(by cases h),fun⟨h1,h2,_⟩=>by rw [h1]at h2;cases h2⟩⟩
  have hwr:w.heap.size≤r:=by omega
  clear hrg hz2 hk2 hr z0 z1 z2
  go_loopw [5] (fun v wr=>∃ left cnt L,ThI w mp r Z.l q f v wr left cnt L) (fun _ wr=>wr.rangeLeft mp r)
  case atStart=>exact⟨_,_,_,start⟩
  case round=>
    clear start
    obtain⟨left,cnt,L,I⟩:=hrel
    have come:∀ k p d n w3,f k=some (.agg (Pt.cs p d n).toArray)→Stp (fun x=>x=r) wr w3→∃ p':Pt,∃ d' n':Sv,Pt.cs p d n=Pt.cs p' d' n'∧fnd Z.l k=some p'∧PtM w3 E p' d' n'∧Below w.heap.size w w3:=fun k p d n w3 hf hs3=>by
      have B3:Below w.heap.size w w3:=((Stp.of_below I.b (fun _=>False)).next hs3 (fun x e=> .inr (by omega))).below (Nat.le_refl _) (fun x e=>e.elim)
      cases hl:fnd Z.l k with
      | none=>rw [H.pn k hl]at hf;cases hf
      | some p'=>
        obtain⟨d',n',h1,h2⟩:=(H.later B3).ps k p' hl
        rw [h1]at hf;injection hf with hf;injection hf with hf
        exact⟨p',d',n',by have:=congrArg Array.toList hf;simpa using this.symm,rfl,h2,B3⟩
    have t1:True:=trivial
    have t2:True:=trivial
    have t3:True:=trivial
    have t4:True:=trivial
    go_wp2_with (first
      | (clear t1;refine at_nextA (by rfl) _ (by rfl) (by rfl) I.rg hsh (fun hl=>?_) (fun k p d n w3 cnt3 hwf hlk hfk3 hrg3 hc3 hs3 hz3 hen=>?_)
         rotate_left
         have hzz:Hid (w3.heap.size=wr.heap.size):=hz3
         obtain⟨p',d',n',ep,hp,m3,B3⟩:=come k p d n w3 hfk3 hs3
         rw [ep]at hen hfk3 ⊢
         clear ep p d n hz3)
      | (clear t2;refine at_newP (by rfl) (by rfl) ?_;intro g5 w5 a5 a6 r5 b5)
      | (clear t3;refine at_putP (by rfl) _ _ (by rfl) g5 (by rfl) p' d' n' (by rfl) _ r5 rfl ?_;intro w6 r6 s6)
      | (clear t4;refine at_getP0 (by rfl) _ (by rfl) g5 (by rfl) p' d' n' r6 ?_))
    · have B6:Below w3.heap.size w3 w6:=((Stp.of_below b5 (fun _=>False)).next s6 (fun x e=> .inr (by omega))).below (Nat.le_refl _) (fun x e=>e.elim)
      refine(hq w6 p' d' n' (Stp.of_below (bnext B3 B6 (Nat.le_refl _)) F) (m3.later B6)).mono ?_
      rintro e w7 ⟨rfl,b7⟩
      have B7:=bnext B6 b7 (Nat.le_refl _)
      have B70:=bnext B3 B7 (Nat.le_refl _)
      have hrg7:=hrg3.step (Stp.of_below B7 (fun _=>False)) id id
      have o7:OwV w7 u5 L:=(I.ow.step hs3 (fun x hx e=>by have:=I.nw x hx;omega)).later B7
      have hlt7:r < w7.heap.size:=by have:=B7.size;have:=hzz.out;have:=I.lt;omega
      have hpk:prI Z.l q k=q p':=by unfold prI;rw [hp]
      have hmem:=fnd_mem hp
      clear b5 s6 r6 m3 b7 B6 r5 hen hrg3 hfk3
      cases hc:q p' with
      | false=>
        go_wp2_with fail
        go_roundw
        case rel=>
          refine⟨_,_,L,hrg7,o7,I.nw,hlt7,B70,I.nd,I.few,fun x=>?_⟩
          rw [I.mem]
          constructor
          · rintro ⟨a1,a2,a3⟩;exact⟨a1,by simp [a2],a3⟩
          · rintro ⟨a1,a2,a3⟩
            refine⟨a1,?_,a3⟩
            by_cases e:x=k
            · subst e;rw [hpk,hc]at a3;cases a3
            · simpa [e]using a2
        case measure=>rw [hrg7.left_eq,I.rg.left_eq];omega
      | true=>
        have b8:Below w7.heap.size w7 (w7.alloc (.cells #[.int .i64 k] 3)):=(Below.refl _ w7).alloc (Nat.le_refl _) _
        have hkL:k ∉ L:=fun h=>by have:=((I.mem k).1 h).2.1;rw [hlk]at this;cases this
        have hnd:(L++ [k]).Nodup:=by
          rw [List.nodup_append]
          exact⟨I.nd,by simp,fun a ha b hb e=>hkL (by rw [List.mem_singleton]at hb;rw [← hb,← e];exact ha)⟩
        have hfewL:(L++ [k]).length≤Z.l.length:=by
          have :=nodup_le (L++ [k]) (ids Z.l) hnd (fun x hx=>by
            rcases List.mem_append.1 hx with hx | hx
            · have h3:=((I.mem x).1 hx).2.2
              unfold prI at h3
              cases hf:fnd Z.l x with
              | none=>rw [hf]at h3;cases h3
              | some p=>have:=fnd_mem hf;exact List.mem_map.2 ⟨p,this.1,this.2⟩
            · rw [List.mem_singleton]at hx;exact List.mem_map.2 ⟨p',hmem.1,by rw [hx];exact hmem.2⟩)
          simpa [ids]using this
        have hbig:L.length+1≤1000000:=by simp at hfewL;omega
        have hzB:r+1≤(w7.alloc (.cells #[.int .i64 k] 3)).heap.size:=by simp;omega
        go_wp2_with (first
          | (at_builtin;refine at_appR elI (r+1) rfl _ _ (by rfl) (by rfl) (ro_later o7 b8) I.nw (some ⟨w7.heap.size,0,none⟩) 1 [.int .i64 k] (by rfl) (by simp) (fun e=>by cases e) (fun ad e=>by injection e with e;subst e;exact cell_one_new _ _ _) (by simp [Value.oneCell']) hbig hzB ?_;intro v9 w9 hA))
        obtain⟨h1,h2,h3,h4,_⟩:=hA
        have s9:Stp (fun x=>u5.ownBlock=some x) w7 w9:=(Stp.of_below b8 _).trans h4
        have hrg9:=hrg7.step s9 (fun e=>o7.map_ne hrg7.mp e) (fun e=>by have:=I.nw r e;omega)
        go_roundw
        case rel=>
          refine⟨_,_,L++ [k],hrg9,?_,h2,Nat.lt_of_lt_of_le hlt7 s9.size,((Stp.of_below B70 (fun _=>False)).next s9 (fun x e=> .inr (by have:=I.nw x e;omega))).below (Nat.le_refl _) (fun _ h=>h.elim),hnd,hfewL,fun x=>?_⟩
          · unfold OwV;simpa using h1
          · rw [List.mem_append,I.mem,List.mem_singleton]
            constructor
            · rintro (⟨a1,a2,a3⟩ | rfl)
              · exact⟨a1,by simp [a2],a3⟩
              · exact⟨hfk _ (by rw [hpk,hc]),by simp,by rw [hpk,hc]⟩
            · rintro ⟨a1,a2,a3⟩
              by_cases e:x=k
              · exact .inr e
              · exact .inl ⟨a1,by simpa [e]using a2,a3⟩
        case measure=>rw [hrg9.left_eq,I.rg.left_eq];omega
    · refine(sort_own I.ow (by have:=I.few;omega)).mono ?_
      rintro e w4 ⟨rfl,o4,s4⟩
      go_wp2_with fail
      go_returns
      refine⟨_,rfl,?_,fun x hx=>by have:=I.nw x hx;omega,((Stp.of_below I.b (fun _=>False)).next s4 (fun x e=> .inr (by have:=I.nw x e;omega))).below (Nat.le_refl _) (fun _ h=>h.elim)⟩
      have e:Go.Proofs.YtogdffonjhghcaaGreatDoor.srt L=ids (thP Z.l q):=by
        refine rising_one (srt_rising L I.nd) (ids_rise H.ok.srt q) fun x=>?_
        rw [srt_mem,I.mem,thP_mem H.ok.srt]
        exact⟨fun h=>h.2.2,fun h=>⟨hfk x h,hl x,h⟩⟩
      rw [← e];exact o4
set_option maxRecDepth 100000 in
set_option maxHeartbeats 1000000 in
theorem tells_all (w:World) (F E:Nat→Prop):Tells w F E 121 #[] (fun _=>true):=by
  intro u p d n hu hm
  have tok:True:=trivial
  show Calls Tryz.prog _ #[.agg (p.cs d n).toArray] u _
  go_enter Tryz.func121,Tryz.ntmps121
  go_wp2_with (first | (clear tok;refine at_boxP (by rfl) _ (by rfl) p d n (by rfl) ?_;intro g1 w1 a1 a2 r1 b1))
  go_returns
  exact⟨rfl,b1⟩
set_option maxRecDepth 100000 in
set_option maxHeartbeats 1000000 in
theorem tells_sall (w:World) (F E:Nat→Prop):Tells w F E 225 #[] (fun _=>true):=by
  intro u p d n hu hm
  have tok:True:=trivial
  show Calls Tryz.prog _ #[.agg (p.cs d n).toArray] u _
  go_enter Tryz.func225,Tryz.ntmps225
  go_wp2_with (first | (clear tok;refine at_boxP (by rfl) _ (by rfl) p d n (by rfl) ?_;intro g1 w1 a1 a2 r1 b1))
  go_returns
  exact⟨rfl,b1⟩
set_option maxRecDepth 100000 in
set_option maxHeartbeats 1000000 in
theorem tells_written (w:World) (F E:Nat→Prop):Tells w F E 122 #[] (fun p=>p.wr):=by
  intro u p d n hu hm
  have tok:True:=trivial
  show Calls Tryz.prog _ #[.agg (p.cs d n).toArray] u _
  go_enter Tryz.func122,Tryz.ntmps122
  go_wp2_with (first | (clear tok;refine at_boxP (by rfl) _ (by rfl) p d n (by rfl) ?_;intro g1 w1 a1 a2 r1 b1;have c8:=(Pt.cells r1).2.2.2.2.2.2.2.2))
  go_returns
  exact⟨rfl,b1⟩
theorem enter_all:∀ args w,(callFunc 121 args).run Tryz.prog w= .ok (.enter 121 args) w:=enters_of Tryz.func121 (by kernel_rfl) rfl
theorem enter_written:∀ args w,(callFunc 122 args).run Tryz.prog w= .ok (.enter 122 args) w:=enters_of Tryz.func122 (by kernel_rfl) rfl
set_option maxRecDepth 100000 in
set_option maxHeartbeats 1000000 in
theorem all_any {w:World} {g mp mw:Nat} {f fw:Int→Option Value} {Z:GZ} {E F:Nat→Prop} (H:Gr w g mp mw f fw Z E F):
    Calls Tryz.prog 58 #[.pointer (some ⟨g,0,none⟩)] w fun e w'=>∃ v,e= .returned v∧OwV w' v (ids (thP Z.l fun _=>true))∧New w.heap.size v∧Below w.heap.size w w':=by
  have hT:=those_any H 121 #[] _ (tells_all w F E) enter_all
  go_enter Tryz.func58,Tryz.ntmps58
  go_wp2_with (first | (go_at_call 120;refine hT.mono ?_;rintro e w1 ⟨v,rfl,h1,h2,h3⟩))
  go_returns
  exact⟨v,rfl,h1,h2,h3⟩
set_option maxRecDepth 100000 in
set_option maxHeartbeats 1000000 in
theorem written_any {w:World} {g mp mw:Nat} {f fw:Int→Option Value} {Z:GZ} {E F:Nat→Prop} (H:Gr w g mp mw f fw Z E F):
    Calls Tryz.prog 60 #[.pointer (some ⟨g,0,none⟩)] w fun e w'=>∃ v,e= .returned v∧OwV w' v (ids (thP Z.l fun p=>p.wr))∧New w.heap.size v∧Below w.heap.size w w':=by
  have hT:=those_any H 122 #[] _ (tells_written w F E) enter_written
  go_enter Tryz.func60,Tryz.ntmps60
  go_wp2_with (first | (go_at_call 120;refine hT.mono ?_;rintro e w1 ⟨v,rfl,h1,h2,h3⟩))
  go_returns
  exact⟨v,rfl,h1,h2,h3⟩
theorem GZ.ok.filt {Z:GZ} {t:Int} (h:Z.ok t) (q:Pt→Bool):(GZ.mk Z.last (Z.l.filter q)).ok t:=
  ⟨h.srt.filter _,fun p hp=>h.rng p ((List.mem_filter.1 hp).1),fun p hp=>h.ft p ((List.mem_filter.1 hp).1),fun p hp=>h.nds p ((List.mem_filter.1 hp).1),fun p hp=>h.wf p ((List.mem_filter.1 hp).1),h.l0,h.lt⟩
theorem fnd_filt (l:List Pt) (i k:Int):fnd (l.filter fun r=> !(r.id==i)) k=if k=i then none else fnd l k:=by
  unfold fnd
  rw [List.find?_filter]
  by_cases e:k=i
  · subst e
    rw [if_pos rfl]
    refine List.find?_eq_none.2 fun p _=>?_
    simp
  · rw [if_neg e]
    congr 1
    funext p
    by_cases e2:p.id=k
    · simp [e2,e]
    · simp [e2]
theorem same_id {l:List Pt} (hs:l.Pairwise fun a b=>a.id < b.id) {p r:Pt} (hp:p ∈ l) (hr:r ∈ l) (e:r.id=p.id):r=p:=by
  have h1:=fnd_of hs hp
  have h2:=fnd_of hs hr
  rw [e,h1]at h2;injection h2 with h2;exact h2.symm
theorem wtP_filt {l:List Pt} (hs:l.Pairwise fun a b=>a.id < b.id) {p:Pt} (hp:p ∈ l) (hw:p.wr=true) (s:Int):wtP (l.filter fun r=> !(r.id==p.id)) s=wtP l s:=by
  unfold wtP
  rw [List.filter_filter]
  refine List.filter_congr fun r hr=>?_
  by_cases e:r.id=p.id
  · rw [same_id hs hp hr e];simp [inS,hw]
  · simp [e]
theorem Gr.gone {w w':World} {g mp mw:Nat} {f fw:Int→Option Value} {Z:GZ} {E F:Nat→Prop} (H:Gr w g mp mw f fw Z E F) {p:Pt} (hp:p ∈ Z.l) (hw:p.wr=true) (k:Stp (fun x=>x=mp) w w') (hm:MpI Tryz.prog 3 w' mp (upd f p.id none)):
    Gr w' g mp mw (upd f p.id none) fw ⟨Z.last,Z.l.filter fun r=> !(r.id==p.id)⟩ E F:=by
  have hne:∀ x,E x→x≠mp:=fun x hx e=>H.ef x hx (e▸H.fm)
  have hW:∀ s,wts (Z.l.filter fun r=> !(r.id==p.id)) s=wts Z.l s:=fun s=>by unfold wts;rw [wtP_filt H.ok.srt hp hw]
  refine⟨H.c.step k (H.c.notMap H.pm),hm,H.wm.step k (fun e=>H.ne e.symm),fun i q hq=>?_,fun i hi=>?_,fun s hs=>?_,fun s hs=>?_,H.ap,H.fg,H.fm,H.fw',H.ne,fun x hx=>Nat.lt_of_lt_of_le (H.lt x hx) k.size,fun x hx=>Nat.lt_of_lt_of_le (H.el x hx) k.size,H.ef,H.ok.filt _⟩
  · simp only at hq
    rw [fnd_filt]at hq
    unfold upd
    by_cases e:i=p.id
    · rw [if_pos e]at hq;cases hq
    · rw [if_neg e]at hq ⊢
      obtain⟨d,n,h1,h2⟩:=H.ps i q hq
      exact⟨d,n,h1,h2.step k hne⟩
  · simp only at hi
    rw [fnd_filt]at hi
    unfold upd
    by_cases e:i=p.id
    · rw [if_pos e]
    · rw [if_neg e]at hi ⊢;exact H.pn i hi
  · simp only at hs ⊢
    rw [hW]at hs ⊢
    obtain⟨v,h1,h2,h3⟩:=H.ws s hs
    exact⟨v,h1,h2.step k (fun r hr e=>h2.map_ne H.pm (by rw [hr,e])),h3⟩
  · simp only at hs
    rw [hW]at hs
    exact H.wn s hs
def dnL (l:List Pt) (q:Pt→Bool) (k:Nat):List Pt:=l.filter fun p=> !(p.wr&&q p&&(ids ((thP l (·.wr)).take k)).contains p.id)
section
variable {l : List Pt} {q : Pt → Bool} {k : Nat}
theorem ids_take (hk:k < (thP l (·.wr)).length):ids ((thP l (·.wr)).take (k+1))=ids ((thP l (·.wr)).take k)++ [((thP l (·.wr))[k]).id]:=by
  rw [List.take_add_one,List.getElem?_eq_getElem hk];unfold ids;rw [List.map_append];rfl
theorem dn_zero:dnL l q 0=l:=by
  unfold dnL
  exact List.filter_eq_self.2 fun p _=>by simp [ids]
theorem dn_yes (hs:l.Pairwise fun a b=>a.id < b.id) (hk:k < (thP l (·.wr)).length) (hq:q (thP l (·.wr))[k]=true):dnL l q (k+1)=(dnL l q k).filter fun r=> !(r.id==((thP l (·.wr))[k]).id):=by
  have hm:=List.mem_filter.1 (List.getElem_mem hk)
  unfold dnL
  rw [List.filter_filter,ids_take hk]
  refine List.filter_congr fun r hr=>?_
  by_cases e:r.id=((thP l (·.wr))[k]).id
  · have:=same_id hs hm.1 hr e
    have h1:r.wr=true:=by rw [this];exact hm.2
    have h2:q r=true:=by rw [this];exact hq
    have h3:(ids (List.take k (thP l (·.wr)))++ [((thP l (·.wr))[k]).id]).contains r.id=true:=by rw [e];simp
    rw [h1,h2,h3,e];simp
  · have h4:(ids (List.take k (thP l (·.wr)))++ [((thP l (·.wr))[k]).id]).contains r.id=(ids (List.take k (thP l (·.wr)))).contains r.id:=by
      rw [Bool.eq_iff_iff];simp [e]
    rw [h4]
    have:(r.id==((thP l (·.wr))[k]).id)=false:=by simpa using e
    rw [this];simp
theorem dn_no (hs:l.Pairwise fun a b=>a.id < b.id) (hk:k < (thP l (·.wr)).length) (hq:q (thP l (·.wr))[k]=false):dnL l q (k+1)=dnL l q k:=by
  have hm:=List.mem_filter.1 (List.getElem_mem hk)
  unfold dnL
  rw [ids_take hk]
  refine List.filter_congr fun r hr=>?_
  by_cases e:r.id=((thP l (·.wr))[k]).id
  · have:=same_id hs hm.1 hr e
    have h2:q r=false:=by rw [this];exact hq
    rw [h2];simp
  · have h4:(ids (List.take k (thP l (·.wr)))++ [((thP l (·.wr))[k]).id]).contains r.id=(ids (List.take k (thP l (·.wr)))).contains r.id:=by
      rw [Bool.eq_iff_iff];simp [e]
    rw [h4]
theorem dn_end (hk:(thP l (·.wr)).length≤k):dnL l q k=l.filter fun p=> !(p.wr&&q p):=by
  unfold dnL
  rw [List.take_of_length_le hk]
  refine List.filter_congr fun r hr=>?_
  cases hw:r.wr
  · simp
  · have :(ids (thP l (·.wr))).contains r.id=true:=by
      simp only [List.contains_iff_mem]
      exact List.mem_map.2 ⟨r,List.mem_filter.2 ⟨hr,hw⟩,rfl⟩
    rw [this];simp
theorem dn_has (hs:l.Pairwise fun a b=>a.id < b.id) (hk:k < (thP l (·.wr)).length):(thP l (·.wr))[k] ∈ dnL l q k:=by
  have hm:=List.mem_filter.1 (List.getElem_mem hk)
  unfold dnL
  refine List.mem_filter.2 ⟨hm.1,?_⟩
  have hp:(ids (thP l (·.wr))).Pairwise (· < ·):=ids_rise hs _
  have :(ids ((thP l (·.wr)).take k)).contains ((thP l (·.wr))[k]).id=false:=by
    rw [Bool.eq_false_iff]
    intro h
    simp only [List.contains_iff_mem]at h
    obtain⟨r,hr,he⟩:=List.mem_map.1 h
    have hpw:(thP l (·.wr)).Pairwise fun a b=>a.id < b.id:=hs.filter _
    rw [← List.take_append_drop k (thP l (·.wr)),List.pairwise_append]at hpw
    have:=hpw.2.2 r hr ((thP l (·.wr))[k]) (by rw [List.drop_eq_getElem_cons hk];exact List.mem_cons_self)
    omega
  rw [this];simp
def dnN (l:List Pt) (q:Pt→Bool) (k:Nat):Nat:=(((thP l (·.wr)).take k).filter q).length
theorem dnN_succ (hk:k < (thP l (·.wr)).length):dnN l q (k+1)=dnN l q k+if q (thP l (·.wr))[k]then 1 else 0:=by
  unfold dnN
  rw [List.take_add_one,List.getElem?_eq_getElem hk,List.filter_append,List.length_append]
  congr 1
  simp only [Option.toList_some,List.filter_cons,List.filter_nil]
  split<;>rfl
theorem dnN_le:dnN l q k≤k:=by
  unfold dnN
  exact Nat.le_trans (List.length_filter_le _ _) (List.length_take_le _ _)
theorem dnN_end (hk:(thP l (·.wr)).length≤k):dnN l q k=(l.filter fun p=>p.wr&&q p).length:=by
  unfold dnN
  rw [List.take_of_length_le hk]
  unfold thP
  rw [List.filter_filter]
  congr 1
  refine List.filter_congr fun r _=>?_
  exact Bool.and_comm _ _
end
def Gh (w:World) (g:Nat) (Z:GZ) (E F:Nat→Prop):Prop:=∃ mp mw f fw,Gr w g mp mw f fw Z E F
set_option maxRecDepth 100000 in
set_option maxHeartbeats 4000000 in
theorem settle_any {w:World} {g mp mw:Nat} {f fw:Int→Option Value} {Z:GZ} {E F:Nat→Prop} (H:Gr w g mp mw f fw Z E F) (fi:FuncId) (lb:Array Value) (q:Pt→Bool) (hq:Tells w F E fi lb q) (eg:∀ args w,(callFunc fi args).run Tryz.prog w= .ok (.enter fi args) w):
    Calls Tryz.prog 224 #[.pointer (some ⟨g,0,none⟩), .func (.func fi) #[] lb] w fun e w'=>e= .returned (.int .i64 (Z.stlN q))∧Gh w' g (Z.stl q) E F∧Stp F w w':=by
  have hWr:=written_any H
  have hfew:=H.ok.few
  have hlen:(thP Z.l (·.wr)).length≤Z.l.length:=List.length_filter_le _ _
  have hwf:∀ x ∈ ids (thP Z.l (·.wr)),wfi x:=fun x hx=>by
    obtain⟨p,hp,rfl⟩:=List.mem_map.1 hx
    exact(H.ok.wfp (List.mem_filter.1 hp).1).i
  go_enter Tryz.func224,Tryz.ntmps224
  go_wp2_with (first | (go_at_call 60;refine hWr.mono ?_;rintro e w1 ⟨v,rfl,o1,n1,b1⟩;obtain⟨⟨va,vn,vc⟩,e0,hvn,iv,ie⟩:=o1.ins hwf n1;have e1:v= .slice va vn vc:=e0;have hvn':vn=(thP Z.l (·.wr)).length:=(by simp only at hvn;rw [hvn];simp [ids]);clear hvn e0;subst hvn';subst e1))
  clear hWr
  go_loopw [5,11] (fun y x wr=>∃ (k:Nat) (f':Int→Option Value),k≤(thP Z.l (·.wr)).length∧x= .int .i64 (k:Int)∧y= .int .i64 (dnN Z.l q k:Int)∧Gr wr g mp mw f' fw ⟨Z.last,dnL Z.l q k⟩ E F∧Stp F w1 wr) (fun _ x _=>(thP Z.l (·.wr)).length - (intOf x).toNat)
  case atStart=>
    refine⟨0,f,Nat.zero_le _,rfl,rfl,?_,Stp.refl _ _⟩
    rw [dn_zero];exact H.later b1
  case round=>
    obtain⟨k,f',hk,rfl,rfl,H4,st⟩:=hrel
    have sw:Stp F w wr:=(Stp.of_below b1 F).trans st
    by_cases hkl:k < (thP Z.l (·.wr)).length
    · have iv4:InsS wr ⟨va,(thP Z.l (·.wr)).length,vc⟩ (ids (thP Z.l (·.wr))):=iv.step st ie (fun x hx e=>by have:=H.lt x e;omega)
      obtain⟨b,o,e,hcs⟩:=iv4.i.cell (by simp only;omega)
      have ck:=hcs k (by simp only;omega)
      have hget:(ids (thP Z.l (·.wr))).getD k 0=((thP Z.l (·.wr))[k]).id:=by
        unfold ids;rw [List.getD_eq_getElem?_getD,List.getElem?_map,List.getElem?_eq_getElem hkl];rfl
      rw [hget]at ck
      simp only at e
      have hmem:=List.mem_filter.1 (List.getElem_mem hkl)
      have hin:=dn_has (q:=q) H.ok.srt hkl
      obtain⟨d4,n4,e4,m4,_⟩:=H4.look ((thP Z.l (·.wr))[k]).id
      rw [show gt (GZ.mk Z.last (dnL Z.l q k)).l ((thP Z.l (·.wr))[k]).id=(thP Z.l (·.wr))[k]from H4.ok.gt_of hin]at e4 m4
      have hwq:=(H.ok.wfp hmem.1).i
      have hys:=dn_yes (q:=q) H.ok.srt hkl
      have hno:=dn_no (q:=q) H.ok.srt hkl
      have hN:=dnN_succ (q:=q) hkl
      have hgone:=fun w5=>H4.gone (w':=w5) hin hmem.2
      have hdn:=dnN_le (l:=Z.l) (q:=q) (k:=k)
      generalize (thP Z.l (·.wr))[k]=p at *
      subst e
      have a9:(k:Int) < ((thP Z.l (·.wr)).length:Int):=by omega
      have pm4:=H4.pm
      obtain⟨z0,z1,z2⟩:=H4.cells
      have t1:True:=trivial
      clear hcs iv4 z0 z2 hget
      have hCall:=hq wr p d4 n4 sw m4
      go_wp2_with (first
        | (clear t1;refine at_look1 186 56 uPm _ zP (by rfl) _ _ (by rfl) mp f' (by rfl) pm4 p.id (by rfl) hwq _ e4 ?_))
      refine hCall.mono ?_
      rintro e w7 ⟨rfl,b7⟩
      have H7:=H4.later b7
      have s7:Stp F w1 w7:=st.trans (Stp.of_below b7 F)
      obtain⟨z0,z1,z2⟩:=H7.cells
      have pm7:=H7.pm
      clear hCall pm4 z0 z2 ck
      cases hc:q p with
      | false=>
        rw [if_neg (by rw [hc];simp)]at hN
        have hN':Hid (dnN Z.l q (k+1)=dnN Z.l q k+0):=hN
        have hL':Hid (dnL Z.l q (k+1)=dnL Z.l q k):=hno hc
        clear hN hno hys
        go_wp2_with fail
        go_roundw
        case rel=>exact⟨k+1,f',by omega,by go_num,by rw [hN'.out];rfl,by rw [hL'.out];exact H7,s7⟩
        case measure=>simp [intOf];omega
      | true=>
        rw [if_pos hc]at hN
        have hN':Hid (dnN Z.l q (k+1)=dnN Z.l q k+1):=hN
        have hL':Hid (dnL Z.l q (k+1)=(dnL Z.l q k).filter fun r=> !(r.id==p.id)):=hys hc
        clear hN hno hys
        have t2:True:=trivial
        go_wp2_with (first
          | (clear t2;refine at_drop (t:=186) (by rfl) _ _ (by rfl) (by rfl) (by rfl) (fun ty=>pm7.drop u3 uPm hwq ty) ?_;rintro w8 ⟨d5,d6⟩))
        go_roundw
        case rel=>exact⟨k+1,upd f' p.id none,by omega,by go_num,by rw [hN'.out];go_num,by rw [hL'.out];exact H7.gone hin hmem.2 (turned_stp d6) d5,s7.next (turned_stp d6) (fun x e=> .inl (by rw [e];exact H.fm))⟩
        case measure=>simp [intOf];omega
    · have hk':k=(thP Z.l (·.wr)).length:=by omega
      have hN':Hid (dnN Z.l q k=(Z.l.filter fun p=>p.wr&&q p).length):=dnN_end (by omega)
      have hL':Hid (dnL Z.l q k=Z.l.filter fun p=> !(p.wr&&q p)):=dn_end (by omega)
      subst hk'
      go_wp2
      go_returns
      refine⟨ret_int ?_,⟨mp,mw,f',fw,?_⟩,sw⟩
      · rw [hN'.out];rfl
      · have:=H4;rw [hL'.out]at this;exact this
theorem enter_sall:∀ args w,(callFunc 225 args).run Tryz.prog w= .ok (.enter 225 args) w:=enters_of Tryz.func225 (by kernel_rfl) rfl
set_option maxRecDepth 100000 in
set_option maxHeartbeats 1000000 in
theorem settleAll_any {w:World} {g mp mw:Nat} {f fw:Int→Option Value} {Z:GZ} {E F:Nat→Prop} (H:Gr w g mp mw f fw Z E F):
    Calls Tryz.prog 151 #[.pointer (some ⟨g,0,none⟩)] w fun e w'=>e= .returned (.int .i64 (Z.stlN fun _=>true))∧Gh w' g (Z.stl fun _=>true) E F∧Stp F w w':=by
  have hT:=settle_any H 225 #[] _ (tells_sall w F E) enter_sall
  go_enter Tryz.func151,Tryz.ntmps151
  go_wp2_with (first | (go_at_call 224;refine hT.mono ?_;rintro e w1 ⟨rfl,h2,h3⟩))
  go_returns
  exact⟨rfl,h2,h3⟩
theorem cut_at:∀ (L:List Int) (x:Int),L.Pairwise (· < ·)→x ∈ L→L.countP (· < x) < L.length∧L.take (L.countP (· < x))++L.drop (L.countP (· < x)+1)=L.filter fun y=> !(y==x)
  | [],x,_,h=>by cases h
  | a::t,x,hs,h=>by
    rw [List.pairwise_cons]at hs
    by_cases e:a=x
    · subst e
      have h0:t.countP (· < a)=0:=List.countP_eq_zero.2 fun y hy=>by have:=hs.1 y hy;simp;omega
      have hf:t.filter (fun y=> !(y==a))=t:=List.filter_eq_self.2 fun y hy=>by have:=hs.1 y hy;simp;omega
      have h1:(a::t).countP (· < a)=0:=by rw [List.countP_cons,h0];simp
      rw [h1]
      refine⟨by simp,?_⟩
      simp [hf]
    · have hx:x ∈ t:=by
        rcases List.mem_cons.1 h with h | h
        · exact absurd h.symm e
        · exact h
      have hlt:=hs.1 x hx
      obtain⟨i1,i2⟩:=cut_at t x hs.2 hx
      have h1:(a::t).countP (· < x)=t.countP (· < x)+1:=by rw [List.countP_cons];simp [hlt]
      rw [h1]
      refine⟨by simp only [List.length_cons];omega,?_⟩
      have e':(a==x)=false:=by simpa using e
      rw [List.take_succ_cons,List.drop_succ_cons,List.cons_append,i2,List.filter_cons,e'];rfl
theorem search_own {w:World} {v:Value} {l:List Int} (h:OwV w v l) (x:Int) (hl:l.length≤1000000) (hs:l.Pairwise (· < ·)) (hn:l≠ []):
    Calls Tryz.prog 270 #[v, .int .i64 x] w fun e w'=>e= .returned (.tuple #[.int .i64 (l.countP (· < x):Nat), .bool (l.contains x)])∧Below w.heap.size w w':=by
  obtain⟨g,cap,cur,rfl,hw⟩:=h.row1 hn
  have:=Any.slices_BinarySearch_int lays25 g 0 l.length cap l x w (Nat.le_refl _) (by omega) (fun j hj=>by rw [Nat.zero_add];exact hw.cell j hj) (by rw [List.take_length];exact hs.imp (fun h=>Int.le_of_lt h))
  rw [List.take_length]at this
  refine Calls.mono this ?_
  rintro e w' ⟨rfl,q,rfl⟩
  exact⟨rfl,below_drewN w q⟩
def Wtd (w w':World) (mw:Nat) (fw:Int→Option Value) (s:Int) (v:Value) (L':List Int):Prop:=
  ∃ fw',MpI Tryz.prog 3 w' mw fw'∧Stp (fun x=>x=mw∨v.ownBlock=some x) w w'∧((L'= []∧fw'=upd fw s none)∨(L'≠ []∧∃ v',fw'=upd fw s (some v')∧OwV w' v' L'∧v'.ownBlock=v.ownBlock))
set_option maxRecDepth 100000 in
set_option maxHeartbeats 4000000 in
theorem waitNoMore_any {w:World} {g mp mw:Nat} {fw:Int→Option Value} {last:Int} {L:List Int} (p:Pt) (d n sv:Sv) (hc:Cs w g [.int .i64 last, .map (some mp), .map (some mw)]) (wm:MpI Tryz.prog 3 w mw fw) (hv:fw p.at'=some (.slice sv.a sv.n sv.c)) (ow:OwV w (.slice sv.a sv.n sv.c) L)
    (hs:L.Pairwise (· < ·)) (hp:p.id ∈ L) (hl:L.length≤1000000) (hk:∀ k,(fw k).isSome→0≤k∧k < 2048) (hwf:wfi p.at') (hg:(Value.slice sv.a sv.n sv.c).ownBlock≠some g):
    Calls Tryz.prog 310 #[.pointer (some ⟨g,0,none⟩), .agg (p.cs d n).toArray] w fun e w'=>e= .returned (.tuple #[])∧Wtd w w' mw fw p.at' (.slice sv.a sv.n sv.c) (L.filter fun y=> !(y==p.id)):=by
  obtain⟨sa,sn,sc⟩:=sv
  simp only at hv ow hg ⊢
  have hne:L≠ []:=fun e=>by rw [e]at hp;cases hp
  obtain⟨k1,k2⟩:=cut_at L p.id hs hp
  have hsn:sn=L.length:=by
    obtain⟨r,cap,cur,e,_⟩:=ow.row1 hne
    injection e
  subst hsn
  have tok:True:=trivial
  go_enter Tryz.func310,Tryz.ntmps310
  go_wp2_with (first | (clear tok;refine at_boxP (by rfl) _ (by rfl) p d n (by rfl) ?_;intro g1 w1 a1 a2 r1 b1))
  have hc1:=hc.later b1
  have wm1:=wm.later b1
  have hv':(fw p.at').getD (.slice none 0 0)= .slice sa L.length sc:=by rw [hv];rfl
  refine wp_region_held_drew (S:=fun u=>Below w1.heap.size w1 u) (by kernel_rfl) (Below.refl _ _).drew (fun hHeld=>?_)
  refine tk (i:=0) (oi:=⟨some 7, .move (.tmp 0),92,_,#[],none⟩) (v:= .pointer (some ⟨g,0,none⟩)) rfl (Or.inl ⟨by rfl,?_⟩) hHeld ?_
  · intro u hu
    go_simp
  try simp only [zp,zn,zq,zr,zs]
  refine tk (i:=1) (oi:=⟨some 8, .nilCheck (.tmp 7),0,_,#[⟨0, .data⟩],none⟩) (v:= .pointer (some ⟨g,0,none⟩)) rfl (Or.inl ⟨by rfl,?_⟩) hHeld ?_
  · intro u hu
    go_simp
  try simp only [zp,zn,zq,zr,zs]
  refine tk (i:=2) (oi:=⟨some 9, .fieldAddr 189 (.tmp 8) 2,0,_,#[⟨1, .data⟩],none⟩) (v:= .pointer (some ⟨g,2,none⟩)) rfl (Or.inl ⟨by rfl,?_⟩) hHeld ?_
  · intro u hu
    go_simp
  try simp only [zp,zn,zq,zr,zs]
  refine tk (i:=3) (oi:=⟨some 10, .load 187 (.tmp 9),187,_,#[⟨2, .data⟩],none⟩) (v:= .map (some mw)) rfl (Or.inl ⟨by rfl,?_⟩) hHeld ?_
  · intro u hu
    have x1:=(hc1.later hu).cell 2 _ rfl;go_simp
  try simp only [zp,zn,zq,zr,zs]
  refine tk (i:=4) (oi:=⟨some 11, .fieldAddr 56 (.tmp 3) 1,0,_,#[],none⟩) (v:= .pointer (some ⟨g1,1,none⟩)) rfl (Or.inl ⟨by rfl,?_⟩) hHeld ?_
  · intro u hu
    go_simp
  try simp only [zp,zn,zq,zr,zs]
  refine tk (i:=5) (oi:=⟨some 12, .load 3 (.tmp 11),3,_,#[⟨4, .data⟩],none⟩) (v:= .int .i64 p.at') rfl (Or.inl ⟨by rfl,?_⟩) hHeld ?_
  · intro u hu
    have x1:=(Pt.cells (r1.later hu)).2.1;go_simp
  try simp only [zp,zn,zq,zr,zs]
  refine tk (i:=6) (oi:=⟨some 13, .lookup 187 (.tmp 10) (.tmp 12) false,54,_,#[⟨3, .data⟩,⟨5, .data⟩],none⟩) (v:= .slice sa L.length sc) rfl
    (yields_M' 187 54 uWm _ zI (by rfl) _ _ (by rfl) mw fw (by rfl) p.at' (by rfl) hwf (fun u hu=>wm1.later hu) _ hv') hHeld ?_
  try simp only [zp,zn,zq,zr,zs]
  refine tk (i:=7) (oi:=⟨some 4, .assign (.tmp 13),54,_,#[⟨6, .data⟩,⟨0, .phase⟩,⟨1, .phase⟩,⟨2, .phase⟩,⟨3, .phase⟩,⟨4, .phase⟩,⟨5, .phase⟩,⟨6, .phase⟩],none⟩) (v:= .slice sa L.length sc) rfl (Or.inl ⟨by rfl,?_⟩) hHeld ?_
  · intro u hu
    go_simp
  try simp only [zp,zn,zq,zr,zs]
  refine wpAnyH_done (by kernel_rfl) ?_ _
  have hc2:=hc1.later hHeld
  have wm2:=wm1.later hHeld
  have r2:=r1.later hHeld
  have b2:=bnext b1 hHeld (Nat.le_refl _)
  have ow2:=ow.later b2
  generalize w1.drew=w2 at *
  clear hc1 wm1 r1 hHeld
  by_cases h1:L.length=1
  · have e1:L.filter (fun y=> !(y==p.id))= []:=by
      rw [← k2]
      have:L.countP (· < p.id)=0:=by omega
      rw [this]
      simp [List.drop_eq_nil_of_le,h1]
    have h1':(L.length:Int)=1:=by omega
    have h1'':Hid (L.length=1):=h1
    clear h1 k1 k2 hl
    go_wp2_with fail
    refine wp_region_last (S:=fun u=>Below w2.heap.size w2 u) _ _ (by simp only [List.pop_toArray,List.dropLast_cons_cons,List.dropLast_singleton];rfl) (by simp only [List.back?_toArray,List.getLast?_cons_cons,List.getLast?_singleton];rfl) (by kernel_rfl) (by kernel_rfl) (Below.refl _ _).drew (fun hHeld=>?_)
    refine tk (i:=0) (oi:=⟨some 17, .move (.tmp 0),92,_,#[],none⟩) (v:= .pointer (some ⟨g,0,none⟩)) rfl (Or.inl ⟨by rfl,?_⟩) hHeld ?_
    · intro u hu
      go_simp
    try simp only [zp,zn,zq,zr,zs]
    refine tk (i:=1) (oi:=⟨some 18, .nilCheck (.tmp 17),0,_,#[⟨0, .data⟩],none⟩) (v:= .pointer (some ⟨g,0,none⟩)) rfl (Or.inl ⟨by rfl,?_⟩) hHeld ?_
    · intro u hu
      go_simp
    try simp only [zp,zn,zq,zr,zs]
    refine tk (i:=2) (oi:=⟨some 19, .fieldAddr 189 (.tmp 18) 2,0,_,#[⟨1, .data⟩],none⟩) (v:= .pointer (some ⟨g,2,none⟩)) rfl (Or.inl ⟨by rfl,?_⟩) hHeld ?_
    · intro u hu
      go_simp
    try simp only [zp,zn,zq,zr,zs]
    refine tk (i:=3) (oi:=⟨some 20, .load 187 (.tmp 19),187,_,#[⟨2, .data⟩],none⟩) (v:= .map (some mw)) rfl (Or.inl ⟨by rfl,?_⟩) hHeld ?_
    · intro u hu
      have x1:=(hc2.later hu).cell 2 _ rfl;go_simp
    try simp only [zp,zn,zq,zr,zs]
    refine tk (i:=4) (oi:=⟨some 21, .fieldAddr 56 (.tmp 3) 1,0,_,#[],none⟩) (v:= .pointer (some ⟨g1,1,none⟩)) rfl (Or.inl ⟨by rfl,?_⟩) hHeld ?_
    · intro u hu
      go_simp
    try simp only [zp,zn,zq,zr,zs]
    refine tk (i:=5) (oi:=⟨some 22, .load 3 (.tmp 21),3,_,#[⟨4, .data⟩],none⟩) (v:= .int .i64 p.at') rfl (Or.inl ⟨by rfl,?_⟩) hHeld ?_
    · intro u hu
      have x1:=(Pt.cells (r2.later hu)).2.1;go_simp
    try simp only [zp,zn,zq,zr,zs]
    refine wpAnyH_done (by kernel_rfl) ?_ _
    have wm3:=wm2.later hHeld
    have b3:=bnext b2 hHeld (Nat.le_refl _)
    generalize w2.drew=w3 at *
    show wpList _ _ _ [_] _ _
    refine at_drop (t:=187) (by rfl) _ _ (by rfl) (by rfl) (by rfl) (fun ty=>wm3.drop u3 uWm hwf ty) ?_
    rintro w4 ⟨d5,d6⟩
    go_wp2_with fail
    first | go_end0 | refine bodyPost_ret (results_none rfl _ _ _) rfl ?_
    exact⟨rfl,_,d5,(Stp.of_below b3 _).next (turned_stp d6) (fun x e=> .inl (.inl e)), .inl ⟨e1,rfl⟩⟩
  · have h1':¬(L.length:Int)=1:=by omega
    have hS:=fun u (hu:Below w2.heap.size w2 u)=>search_own (ow2.later hu) p.id hl hs hne
    have hD:=fun u (hu:Below w2.heap.size w2 u)=>delete_own (ow2.later hu) (L.countP (· < p.id)) k1
    rw [k2]at hD
    have hne2:L.filter (fun y=> !(y==p.id))≠ []:=fun e=>by
      rw [e]at k2
      have h5:(L.take (L.countP (· < p.id))++L.drop (L.countP (· < p.id)+1)).length=L.length - 1:=by
        rw [List.length_append,List.length_take,List.length_drop];omega
      rw [k2]at h5
      simp only [List.length_nil]at h5
      omega
    have hkb:(L.countP (· < p.id):Int)+1≤1000000:=by omega
    generalize hL0:L.filter (fun y=> !(y==p.id))=L' at *
    have hLe:Hid (L.filter (fun y=> !(y==p.id))=L'):=hL0
    clear hL0
    clear k2
    generalize L.countP (· < p.id)=kk at *
    obtain⟨cc0,cc1,cc2,cc3,cc4,cc5,cc6,cc7,cc8⟩:=Pt.cells r2
    clear cc2 cc3 cc4 cc5 cc6 cc7 cc8 cc1
    have hk':Hid (∀ k,(fw k).isSome→0≤k∧k < 2048):=hk
    have hD':Hid (∀ u,Below w2.heap.size w2 u→Calls Tryz.prog 189 #[.slice sa L.length sc, .int .i64 (kk:Int), .int .i64 ((kk:Int)+1)] u fun e w'=>∃ v',e= .returned v'∧OwV w' v' L'∧v'.ownBlock=(Value.slice sa L.length sc).ownBlock∧Stp (fun x=>(Value.slice sa L.length sc).ownBlock=some x) u w'):=hD
    have hne2':Hid (L'≠ []):=hne2
    obtain⟨bb,hbb⟩:∃ bb,bb=L.contains p.id:=⟨_,rfl⟩
    have hS':Hid (∀ u,Below w2.heap.size w2 u→Calls Tryz.prog 270 #[.slice sa L.length sc, .int .i64 p.id] u fun e w'=>e= .returned (.tuple #[.int .i64 (kk:Int), .bool bb])∧Below u.heap.size u w'):=by rw [hbb];exact hS
    clear hS hbb
    have hkb':Hid (IntKind.i64.wrap ((kk:Int)+1)=(kk:Int)+1):=by show _=_;rw [IntKind.wrap_i64];omega
    clear hkb k1 hl
    clear hk hD hne2 hs hp hv hv' hne
    go_wp2_with (first
      | (go_at_call 270;refine(hS'.out _ (Below.refl _ _)).mono ?_;rintro e w3 ⟨rfl,b3⟩))
    have hc3:=hc2.later b3
    have wm3:=wm2.later b3
    have r3:=r2.later b3
    have b9:=bnext b2 b3 (Nat.le_refl _)
    have ow3:=ow2.later b3
    have hDk:=hD'.out w3.drew (bnext (Below.refl _ _) ((b3).drew) (Nat.le_refl _))
    have hg1:(Value.slice sa L.length sc).ownBlock≠some g1:=fun e=>by
      have:=ow.lt e
      omega
    have hmw:=ow3.map_ne wm3
    have hkb2:=hkb'.out
    refine wp_region_last (S:=fun u=>Stp (fun x=>(Value.slice sa L.length sc).ownBlock=some x) w3 u) _ _ (by simp only [List.pop_toArray,List.dropLast_cons_cons,List.dropLast_singleton];rfl) (by simp only [List.back?_toArray,List.getLast?_cons_cons,List.getLast?_singleton];rfl) (by kernel_rfl) (by kernel_rfl) (Stp.refl _ _).drew (fun hHeld=>?_)
    refine tk (i:=0) (oi:=⟨some 30, .move (.tmp 0),92,_,#[],none⟩) (v:= .pointer (some ⟨g,0,none⟩)) rfl (Or.inl ⟨by rfl,?_⟩) hHeld ?_
    · intro u hu
      go_simp
    try simp only [zp,zn,zq,zr,zs]
    refine tk (i:=1) (oi:=⟨some 31, .nilCheck (.tmp 30),0,_,#[⟨0, .data⟩],none⟩) (v:= .pointer (some ⟨g,0,none⟩)) rfl (Or.inl ⟨by rfl,?_⟩) hHeld ?_
    · intro u hu
      go_simp
    try simp only [zp,zn,zq,zr,zs]
    refine tk (i:=2) (oi:=⟨some 32, .fieldAddr 189 (.tmp 31) 2,0,_,#[⟨1, .data⟩],none⟩) (v:= .pointer (some ⟨g,2,none⟩)) rfl (Or.inl ⟨by rfl,?_⟩) hHeld ?_
    · intro u hu
      go_simp
    try simp only [zp,zn,zq,zr,zs]
    refine tk (i:=3) (oi:=⟨some 33, .load 187 (.tmp 32),187,_,#[⟨2, .data⟩],none⟩) (v:= .map (some mw)) rfl (Or.inl ⟨by rfl,?_⟩) hHeld ?_
    · intro u hu
      have x1:=(hc3.step hu hg).cell 2 _ rfl;go_simp
    try simp only [zp,zn,zq,zr,zs]
    refine tk (i:=4) (oi:=⟨some 34, .fieldAddr 56 (.tmp 3) 1,0,_,#[],none⟩) (v:= .pointer (some ⟨g1,1,none⟩)) rfl (Or.inl ⟨by rfl,?_⟩) hHeld ?_
    · intro u hu
      go_simp
    try simp only [zp,zn,zq,zr,zs]
    refine tk (i:=5) (oi:=⟨some 35, .load 3 (.tmp 34),3,_,#[⟨4, .data⟩],none⟩) (v:= .int .i64 p.at') rfl (Or.inl ⟨by rfl,?_⟩) hHeld ?_
    · intro u hu
      have x1:=(Pt.cells (r3.step hu hg1)).2.1;go_simp
    try simp only [zp,zn,zq,zr,zs]
    refine tk (i:=6) (oi:=⟨some 36, .move (.tmp 4),54,_,#[],none⟩) (v:= .slice sa L.length sc) rfl (Or.inl ⟨by rfl,?_⟩) hHeld ?_
    · intro u hu
      go_simp
    try simp only [zp,zn,zq,zr,zs]
    refine tk (i:=7) (oi:=⟨some 37, .move (.tmp 5),3,_,#[],none⟩) (v:= .int .i64 (kk:Int)) rfl (Or.inl ⟨by rfl,?_⟩) hHeld ?_
    · intro u hu
      go_simp
    try simp only [zp,zn,zq,zr,zs]
    refine tk (i:=8) (oi:=⟨some 38, .move (.tmp 5),3,_,#[],none⟩) (v:= .int .i64 (kk:Int)) rfl (Or.inl ⟨by rfl,?_⟩) hHeld ?_
    · intro u hu
      go_simp
    try simp only [zp,zn,zq,zr,zs]
    refine tk (i:=9) (oi:=⟨some 39, .binOp BinOp.add 3 (.tmp 38) (.const (Value.int IntKind.i64 1)) 3,3,_,#[⟨8, .data⟩],none⟩) (v:= .int .i64 ((kk:Int)+1)) rfl (Or.inl ⟨by rfl,?_⟩) hHeld ?_
    · intro u hu
      go_simp
    try simp only [zp,zn,zq,zr,zs]
    refine wpAnyH_ready (rs:= [10]) (by kernel_rfl) (by simp) ?_
    refine(AllReadyH.cons (o:=⟨some 40, .call { callee:=Callee.value (.func 189),args:=#[.tmp 36, .tmp 37, .tmp 39],argTypes:=#[54,3,3]},54,_,#[⟨6, .data⟩,⟨7, .data⟩,⟨9, .data⟩],none⟩) rfl (fun K hK=>?_) AllReadyH.nil)
    go_simp
    refine hDk.mono ?_
    rintro e w4 ⟨v',rfl,o4,e4,s4⟩
    try go_wp2_with fail
    have s40:=(Stp.refl (fun x=>(Value.slice sa L.length sc).ownBlock=some x) w3).drew.trans s4
    refine hK.out _ _ (s40) (fun hHeld=>?_)
    clear hK K
    try simp only [zp,zn,zq,zr,zs]
    refine wpAnyH_done (by kernel_rfl) ?_ _
    show wpList _ _ _ [_] _ _
    refine at_updM 187 54 uWm (by rfl) _ _ _ (by rfl) mw fw (by rfl) p.at' (by rfl) v' (by rfl) (wm3.step s40 hmw) hk'.out hwf ?_
    intro w5 m5 t5
    go_wp2_with fail
    first | go_end0 | refine bodyPost_ret (results_none rfl _ _ _) rfl ?_
    rw [hLe.out]
    refine⟨rfl,_,m5,((Stp.of_below b9 _).next s40 (fun x e=> .inl (.inr e))).next t5 (fun x e=> .inl (.inl e)), .inr ⟨hne2'.out,v',rfl,?_,e4⟩⟩
    exact o4.step t5 (fun r hr e=>hmw (by rw [← e4,hr,e]))
end Go.Proofs.YtogdffonjhghcaaGreatDoor
