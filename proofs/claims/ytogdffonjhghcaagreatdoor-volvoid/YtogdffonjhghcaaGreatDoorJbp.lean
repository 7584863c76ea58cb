/-
  Texts of my own, joined: no statement is proved here.
-/
import Derived.Test.YtogdffonjhghcaaGreatDoorJbm
import Derived.Test.YtogdffonjhghcaaGreatDoorJbo
set_option linter.unusedSimpArgs false
set_option linter.unusedVariables false
namespace Go.Proofs.YtogdffonjhghcaaGreatDoor
open Go.ChangeShapes Go.WideShapes Go.ChangeAt Go.RowKit Go.Shelf
theorem enter_common:∀ args w,(callFunc 269 args).run Tryz.prog w= .ok (.enter 269 args) w:=enters_of Tryz.func269 (by kernel_rfl) rfl
set_option maxRecDepth 100000 in
set_option maxHeartbeats 1000000 in
theorem tells_common {w:World} {va:Option Addr} {vn vc:Nat} {l:List Int} (ov:OwV w (.slice va vn vc) l) (hs:l.Pairwise (· < ·)) (hne:l≠ []) (hl:l.length≤100000) (gb:Nat) (hc:w.cell? ⟨gb,0,none⟩=some (.slice va vn vc)) (r:List Int):TellsN w 269 #[.pointer (some ⟨gb,0,none⟩)] r (fun x=>l.contains x):=by
  intro u x hx hu
  have hc1:=(Stp.of_below hu (fun _=>False)).cell hc id
  have hS:=search_own (ov.later hu) x (by omega) hs hne
  show Calls Tryz.prog _ #[.int .i64 x, .pointer (some ⟨gb,0,none⟩)] u fun e u'=>e= .returned (.bool (l.contains x))∧Below u.heap.size u u'
  generalize l.countP (· < x)=kk at *
  generalize l.contains x=bb at *
  go_enter Tryz.func269,Tryz.ntmps269
  go_wp2_with (first | (go_at_call 270;refine hS.mono ?_;rintro e w3 ⟨rfl,b3⟩))
  go_returns
  exact⟨rfl,b3⟩
set_option maxRecDepth 100000 in
set_option maxHeartbeats 1000000 in
theorem common_any {w:World} {va:Option Addr} {vn vc:Nat} {l:List Int} (ov:OwV w (.slice va vn vc) l) (hs:l.Pairwise (· < ·)) (hne:l≠ []) (hl:l.length≤100000) {s:Sv} {r:List Int} (hr:InsS w s r) (hrl:r.length≤1000000):
    Calls Tryz.prog 214 #[.slice va vn vc, .slice s.a s.n s.c] w fun e w'=>e= .returned (.bool (r.any fun x=>l.contains x))∧Below w.heap.size w w':=by
  have b0:Below w.heap.size w (w.alloc (.cells #[.slice va vn vc] 54)):=(Below.refl _ w).alloc (Nat.le_refl _) _
  have hC:=containsFunc_any (hr.later b0) hrl 269 #[.pointer (some ⟨w.heap.size,0,none⟩)] _ (tells_common (ov.later b0) hs hne hl w.heap.size (by simp [go_sem]) r) enter_common
  generalize (r.any fun x=>l.contains x)=bb at *
  go_enter Tryz.func214,Tryz.ntmps214
  go_wp2_with (first | (go_at_call 218;refine hC.mono ?_;rintro e w3 ⟨rfl,b3⟩))
  go_returns
  exact⟨rfl,bnext b0 b3 (Nat.le_refl _)⟩
theorem keys_fn (mb:Option Nat) (W:World):Calls Tryz.prog 217 #[.map mb] W fun e w'=>e= .returned (.func (.func 273) #[] #[.pointer (some ⟨W.heap.size,0,none⟩)])∧w'=W.alloc (.cells #[.map mb] 187):=
  (callsIn_wide (n:=5)).1 (AnyZI.keys_in keysA Fence.wide 5 trivial rfl mb W)
theorem sorted_keys {w:World} {b:Nat} {fm:Int→Option Value} (hm:MpI Tryz.prog 3 w b fm) {L:List Int} (hL:L.Pairwise (· < ·)) (hmem:∀ x,x ∈ L↔(fm x).isSome=true):
    Calls Tryz.prog 216 #[.func (.func 273) #[] #[.pointer (some ⟨w.heap.size,0,none⟩)]] (w.alloc (.cells #[.map (some b)] 187)) fun e w'=>∃ v,e= .returned v∧OwV w' v L∧New w.heap.size v∧Below w.heap.size w w':=by
  have hlt:=hm.lt
  obtain⟨D0,hown,hR⟩:=hm
  have hp:=keys_perm hown hR (rise_nodup hL) hmem
  have hsz:Maps.size D0≤4096:=by
    obtain⟨es,clock,hb,Ft,hs,hD⟩:=hown
    rw [hD];simp [Maps.size,length_sorted];exact hs
  have hseq:SeqGives Fence.wide 2 Tryz.prog 273 #[.pointer (some ⟨w.heap.size,0,none⟩)] encZ (fun ss=>ss.Perm (intKeys D0)) (Maps.size D0) (w.alloc (.cells #[.map (some b)] 187)):=
    AnyZI.keys_gives (ρ:=keysA_ren) { keysA with} Fence.wide _ trivial rfl (by omega) w.heap.size b 4096 D0 (R:=heldElem) _ (by simp) (by simp) (by
      obtain⟨es,clock,hb,Ft,hs,hD⟩:=hown
      exact⟨es,clock,(Below.heap_alloc _ _ b hlt).trans hb,Ft,hs,hD⟩)
  have cS:=AnyZI.sorted_in sortedA Fence.wide 5 trivial trivial trivial trivial rfl (by omega) (sorts1 _) (enters_of Tryz.func168 (by kernel_rfl) rfl) 273 #[.pointer (some ⟨w.heap.size,0,none⟩)] trivial (enters_of Tryz.func273 (by kernel_rfl) rfl) _ _ (by unfold maxLen;omega) (by omega) _ hseq
  change CallsIn _ _ Tryz.prog 216 _ _ _ at cS
  have cSp:=callsIn_wide.1 cS
  refine cSp.mono ?_
  rintro e w' ⟨v,ss,rfl,hS,hrow,hnil,hb⟩
  have b0:Below w.heap.size w (w.alloc (.cells #[.map (some b)] 187)):=(Below.refl _ w).alloc (Nat.le_refl _) _
  have e1:ss.mergeSort (fun x y=>decide (x≤y))=L:=by
    have h1:=mergeSort_of_perm_i (hS.trans hp.symm)
    exact h1.trans (sort_id hL)
  have e2:ss.length=L.length:=(hS.trans hp.symm).length_eq
  refine⟨v,rfl,?_,fun r hr=>?_,bnext b0 hb (Nat.le_refl _)⟩
  · unfold OwV
    rw [e1,e2]at hrow
    exact ro_zero hrow
  · have:=(hrow.lt r hr).1;have:=b0.size;omega
def kpS (l c:List Pt) (s:Int):Bool:=(rdy l s).any fun x=>(byS c s).contains x
theorem kpS_bsS {l:List Pt} (hs:Rise l) (is:List Int) (s:Int):s ∈ bsS is l↔kpS l (nd is l) s=true:=by
  unfold bsS kpS
  rw [List.mem_filter,List.any_eq_true,List.any_eq_true]
  constructor
  · rintro ⟨h0,x,h1,h2⟩
    refine⟨x,h1,?_⟩
    rw [List.contains_iff_mem]at h2 ⊢
    obtain⟨q,q1,q2⟩:=ids_mem.1 h2
    obtain⟨p,p1,p2,p3,_⟩:=rdy_facts hs h1
    have:q=p:=same_id hs p1 (nd_sub is l q q1) (by omega)
    subst this
    exact byS_mem.2 ⟨q,q1,p3,q2⟩
  · rintro ⟨x,h1,h2⟩
    rw [List.contains_iff_mem]at h2
    obtain⟨p,p1,p2,p3⟩:=byS_mem.1 h2
    obtain⟨q,q1,q2,q3,q4,_⟩:=rdy_facts hs h1
    refine⟨secs_mem.2 fun e=>?_,x,h1,by rw [List.contains_iff_mem];exact ids_mem.2 ⟨p,p1,p3⟩⟩
    have:x ∈ wts l s:=wts_mem.2 ⟨q,q1,q2,q3,q4⟩
    rw [e]at this;cases this
theorem kpS_ne {l c:List Pt} {s:Int} (h:kpS l c s=true):byS c s≠ []:=by
  intro e
  unfold kpS at h
  rw [e]at h
  obtain⟨x,_,h2⟩:=List.any_eq_true.1 h
  simp at h2
theorem rdS_few (l:List Pt):∀ (W late:List Pt),(rdS l late W).length≤W.length
  | [],late=>by simp [rdS]
  | p::r,late=>by
    unfold rdS
    split
    · have:=rdS_few l r (late++ [p]);simp;omega
    · have:=rdS_few l r late;simp;omega
theorem rdy_len {Z:GZ} {t:Int} (h:Z.ok t) (s:Int):((rdy Z.l s).length:Int)≤t:=by
  have h1:=h.fewW s
  have h2:=rdS_few Z.l (wtP Z.l s) []
  unfold rdy ids
  rw [List.length_map]
  omega
theorem rdy_wfi {Z:GZ} {t:Int} (h:Z.ok t) (ht:t≤2000) (s:Int):∀ x ∈ rdy Z.l s,wfi x:=fun x hx=>by
  obtain⟨p,p1,p2,_⟩:=rdy_facts h.srt hx
  have:=h.rng p p1;have:=h.lt
  exact wfi_of (by omega)
structure DuI (w wr:World) (N m r:Nat) (Z:GZ) (c:List Pt) (fm fn:Int→Option Value) (left:Int→Bool) (cnt:Nat):Prop where
  rg:RgI Tryz.prog 3 wr m r fn left cnt
  eq:∀ s,fn s=if left s||kpS Z.l c s then fm s else none
  vs:∀ s v,fm s=some v→byS c s≠ []∧OwV wr v (byS c s)∧∀ x,v.ownBlock=some x→N≤x∧x < r
  b:Below w.heap.size w wr
  rl:r < wr.heap.size
set_option maxRecDepth 100000 in
set_option maxHeartbeats 4000000 in
theorem due_any {w:World} {g mp mw:Nat} {f fw:Int→Option Value} {Z:GZ} {E F:Nat→Prop} (H:Gr w g mp mw f fw Z E F) (hnl:∀ p ∈ Z.l,p.needs.length≤100000) {is:List Int} {s:Sv} (hs:InsS w s (ids (nd is Z.l))):
    Calls Tryz.prog 147 #[.pointer (some ⟨g,0,none⟩), .slice s.a s.n s.c] w fun e w'=>∃ v,e= .returned v∧OwV w' v (bsS is Z.l)∧New w.heap.size v∧Below w.heap.size w w':=by
  have hcs:∀ p ∈ nd is Z.l,p ∈ Z.l:=nd_sub is Z.l
  have hfew:=H.ok.few
  have hcl:(nd is Z.l).length≤2000:=by have:=nd_len is Z.l;omega
  have hrc:=nd_rise is Z.l H.ok.srt
  have hB:=bySectors_any H hnl hcs hcl hs
  have hend:Hid (∀ x,x ∈ bsS is Z.l↔kpS Z.l (nd is Z.l) x=true):=kpS_bsS H.ok.srt is
  have hris:Hid ((bsS is Z.l).Pairwise (· < ·)):=(secs_rise Z.l).filter _
  generalize bsS is Z.l=L at *
  generalize nd is Z.l=c at *
  have t1:True:=trivial
  go_enter Tryz.func147,Tryz.ntmps147
  go_wp2_with (first
    | (go_at_call 213;refine hB.mono ?_;rintro e w1 ⟨m,fm,rfl,I1,b1⟩;clear hB)
    | (clear t1;refine at_range' (by rfl) _ (by rfl) (by rfl) (mp_range I1.mm uWm) ?_;rintro w2 ⟨cnt,hrg,hk2,hz2⟩))
  go_frame
  obtain⟨r,hr⟩:∃ r,r=w1.heap.size:=⟨_,rfl⟩
  rw [← hr]at hrg ⊢
  have b2:Below w1.heap.size w1 w2:=hk2.below (Nat.le_refl _) (fun _ e=>e.elim)
  have B2:=bnext b1 b2 (Nat.le_refl _)
  have start:DuI w w2 w.heap.size m r Z c fm fm (fun k=>(fm k).isSome) cnt:=by
    refine⟨hrg,fun s=>?_,fun s v hv=>?_,B2,by omega⟩
    · cases hf:fm s with
      | none=>simp
      | some u=>simp
    · by_cases e:byS c s= []
      · rw [I1.no s e]at hv;cases hv
      · obtain⟨u,k1,k2,k3⟩:=I1.yes s e
        rw [hv]at k1;injection k1 with k1;subst k1
        exact⟨e,k2.later b2,fun x hx=>⟨k3 x hx,by have:=k2.lt hx;omega⟩⟩
  have hwr:w.heap.size≤r:=by have:=b1.size;omega
  have hmr:m < r:=by have:=I1.mm.lt;omega
  have hmN:=I1.nm
  have kpNone:Hid (∀ s,byS c s≠ []→fm s=none→False):=fun s h1 h2=>by
    obtain⟨u,k1,_⟩:=I1.yes s h1
    rw [h2]at k1;cases k1
  clear hrg hz2 hk2 hr b2 I1 b1 B2
  go_loopw [6,7] (fun _ _ wr=>∃ fn left cnt,DuI w wr w.heap.size m r Z c fm fn left cnt) (fun _ _ wr=>wr.rangeLeft m r)
  case atStart=>exact⟨_,_,_,start⟩
  case round=>
    clear start
    obtain⟨fn,left,cnt,I⟩:=hrel
    have t1:True:=trivial
    go_wp2_with (first
      | (clear t1;refine at_next' (by rfl) _ (by rfl) (by rfl) I.rg (fun hl=>?_) (fun k v w3 cnt3 hwf hlk hfk3 hrg3 hc3 hs3 hz3 hen=>?_)
         rotate_left
         have hzz:Hid (w3.heap.size=wr.heap.size):=hz3
         have B3:Below w.heap.size w w3:=((Stp.of_below I.b (fun _=>False)).next hs3 (fun x e=> .inr (by omega))).below (Nat.le_refl _) (fun x e=>e.elim)
         have hfm:fm k=some v:=by rw [I.eq k,hlk]at hfk3;simpa using hfk3
         obtain⟨hne,ov,hob⟩:=I.vs k v hfm
         have o3:=ov.step hs3 (fun x hx e=>by have:=(hob x hx).2;omega)
         obtain⟨va,vn,vc,rfl⟩:=o3.shape
         have hRd:=ready_any (H.later B3) k hwf hnl
         have hwfr:=rdy_wfi H.ok (by omega) k
         have hlr:=rdy_len H.ok k
         clear hz3)
      | (go_at_call 215;refine hRd.mono ?_;rintro e w4 ⟨v4,rfl,o4,n4,b4⟩;clear hRd
         obtain⟨s4,e4,_,i4,_⟩:=o4.ins hwfr n4
         subst e4
         have hCm:=common_any (o3.later b4) (byS_rise hrc k) hne (by have:=byS_len c k;omega) i4 (by omega)
         have hkp:Hid (kpS Z.l c k=((rdy Z.l k).any fun x=>(byS c k).contains x)):=by show _=_;rfl
         generalize ((rdy Z.l k).any fun x=>(byS c k).contains x)=bb at *))
    · refine hCm.mono ?_
      rintro e w5 ⟨rfl,b5⟩
      clear hCm
      have B45:=bnext b4 b5 (Nat.le_refl _)
      have B5:=bnext B3 B45 (Nat.le_refl _)
      have rg5:=hrg3.step (Stp.of_below B45 (fun _=>False)) id id
      have zz:=hzz.out
      have hrl5:r < w5.heap.size:=by have:=B45.size;have:=I.rl;omega
      have vs5:∀ s v,fm s=some v→byS c s≠ []∧OwV w5 v (byS c s)∧∀ x,v.ownBlock=some x→w.heap.size≤x∧x < r:=fun s v hv=>by
        obtain⟨k1,k2,k3⟩:=I.vs s v hv
        exact⟨k1,(k2.step hs3 (fun x hx e=>by have:=(k3 x hx).2;omega)).later B45,k3⟩
      cases bb with
      | true=>
        have J:DuI w w5 w.heap.size m r Z c fm fn (fun x=>left x&& !decide (x=k)) cnt3:=by
          refine⟨rg5,fun s=>?_,vs5,B5,hrl5⟩
          rw [I.eq s]
          by_cases e:s=k
          · subst e;rw [hkp.out];simp
          · simp [e]
        clear b4 b5 hen hrg3 rg5 vs5
        go_wp2_with fail
        go_roundw
        case rel=>exact⟨_,_,_,J⟩
        case measure=>rw [J.rg.left_eq,I.rg.left_eq];exact hc3
      | false=>
        have t6:True:=trivial
        clear b4 b5 hen hrg3
        go_wp2_with (first
          | (clear t6;refine at_drop (t:=187) (R:=fun w'=>∃ cnt',RgI Tryz.prog 3 w' m r (upd fn k none) (fun x=>left x&& !decide (x=k)) cnt'∧cnt'≤cnt3∧Stp (fun x=>x=m) w5 w') (by rfl) _ _ (by rfl) (by rfl) (by rfl) (fun ty=>by
              obtain⟨w',cnt',d1,d2,d3,d4⟩:=rg5.drop u3 uWm hwf (by simp) ty
              exact⟨w',d1,cnt',d2,d3,turned_stp d4⟩) ?_
             rintro w6 ⟨cnt6,rg6,hc6,s6⟩))
        have J:DuI w w6 w.heap.size m r Z c fm (upd fn k none) (fun x=>left x&& !decide (x=k)) cnt6:=by
          refine⟨rg6,fun s=>?_,fun s v hv=>?_,B5.trans (s6.below B5.size (fun x e=>by omega)),Nat.lt_of_lt_of_le hrl5 s6.size⟩
          · by_cases e:s=k
            · subst e;rw [hkp.out];simp [upd]
            · simp only [upd,e,if_false]
              rw [I.eq s];simp [e]
          · obtain⟨k1,k2,k3⟩:=vs5 s v hv
            exact⟨k1,k2.step s6 (fun x hx e=>k2.map_ne rg5.mp (by rw [hx,e])),k3⟩
        try simp only [Act.put]
        try go_wp2_with fail
        go_roundw
        case rel=>exact⟨_,_,_,J⟩
        case measure=>rw [J.rg.left_eq,I.rg.left_eq];omega
    · have hmm:=I.rg.mp
      have hmem:∀ x,x ∈ L↔(fn x).isSome=true:=fun x=>by
        rw [hend.out x,I.eq x,hl x]
        constructor
        · intro h
          rw [h]
          cases hf:fm x with
          | some u=>rfl
          | none=>exact(kpNone.out x (kpS_ne h) hf).elim
        · intro h
          cases hk:kpS Z.l c x with
          | true=>rfl
          | false=>rw [hk]at h;cases h
      have hSo:=sorted_keys hmm hris.out hmem
      go_wp2_with (first
        | (go_at_call 217;refine(keys_fn _ _).mono ?_;rintro e w' ⟨rfl,rfl⟩)
        | (go_at_call 216;refine hSo.mono ?_;rintro e w4 ⟨v4,rfl,o4,n4,b4⟩))
      go_returns
      exact⟨_,rfl,o4,fun x hx=>by have:=n4 x hx;have:=I.b.size;omega,bnext I.b b4 (Nat.le_refl _)⟩
def btc (v:Value) (b:Bool):List Value:= [v, .bool b]
theorem btc_one {v:Value} (h:v.oneCell'=true) (b:Bool):∀ u ∈ btc v b,u.oneCell'=true:=by
  intro u hu;unfold btc at hu;simp at hu
  rcases hu with rfl | rfl
  · exact h
  · rfl
theorem srtBt:Srt 170 2 (btc (.slice none 0 0) false):=
  ⟨⟨_,Tryz.underlying170,rfl⟩,by kernel_rfl,fun w=>(zero_of_info (v:= .agg (btc (.slice none 0 0) false).toArray) (n:=2) (by kernel_rfl)).1 w,rfl,btc_one rfl _⟩
theorem frS_no {L:List Int} {l:List Pt} (h:L.length≠1):frS L l=false:=by unfold frS;simp [h]
theorem frS_yes {l:List Pt} (hs:Rise l) (x:Int):frS [x] l= !((ids (thP l (·.wr))).any fun i=>decide ((gt l i).at'≠x)):=by
  unfold frS
  have e:((ids (thP l (·.wr))).any fun i=>decide ((gt l i).at'≠x))=(thP l (·.wr)).any fun p=>decide (p.at'≠x):=by
    unfold ids
    rw [List.any_map,Bool.eq_iff_iff,List.any_eq_true,List.any_eq_true]
    have hg:∀ p ∈ thP l (·.wr),gt l p.id=p:=fun p hp=>by unfold gt;rw [fnd_of hs (List.mem_filter.1 hp).1];rfl
    constructor
    · rintro ⟨p,h1,h2⟩;refine⟨p,h1,?_⟩;simp only [Function.comp_apply,hg p h1]at h2;exact h2
    · rintro ⟨p,h1,h2⟩;refine⟨p,h1,?_⟩;simp only [Function.comp_apply,hg p h1];exact h2
  rw [e,List.not_any_eq_all_not]
  simp
theorem enter_alone:∀ args w,(callFunc 219 args).run Tryz.prog w= .ok (.enter 219 args) w:=enters_of Tryz.func219 (by kernel_rfl) rfl
set_option maxRecDepth 100000 in
set_option maxHeartbeats 2000000 in
theorem tells_alone {w:World} {g mp mw:Nat} {f fw:Int→Option Value} {Z:GZ} {E F:Nat→Prop} (H:Gr w g mp mw f fw Z E F) (hnl:∀ p ∈ Z.l,p.needs.length≤100000) {s:Sv} {x:Int} (hs:InsS w s [x]) (g2 g3:Nat) (h2:w.cell? ⟨g2,0,none⟩=some (.pointer (some ⟨g,0,none⟩))) (h3:w.cell? ⟨g3,0,none⟩=some (.slice s.a s.n s.c)) (r:List Int) (hr:∀ i ∈ r,wfi i):
    TellsN w 219 #[.pointer (some ⟨g2,0,none⟩), .pointer (some ⟨g3,0,none⟩)] r (fun i=>decide ((gt Z.l i).at'≠x)):=by
  intro u i hi hu
  have c2:=(Stp.of_below hu (fun _=>False)).cell h2 id
  have hG:=get_any (H.later hu) i (hr i hi) hnl
  have hsu:=hs.later hu
  have hsn:s.n=1:=hs.i.len.symm
  obtain⟨sb,so,se,hcell⟩:=hs.i.cell (by omega)
  obtain⟨sa,sn,sc⟩:=s
  simp only at hsn se
  subst se
  subst hsn
  have c30:=h3
  have cx:=hcell 0 (by simp)
  simp only [Nat.add_zero,List.getD_cons_zero]at cx
  show Calls Tryz.prog _ #[.int .i64 i, .pointer (some ⟨g2,0,none⟩), .pointer (some ⟨g3,0,none⟩)] u fun e u'=>e= .returned (.bool (decide ((gt Z.l i).at'≠x)))∧Below u.heap.size u u'
  generalize gt Z.l i=p at *
  generalize gE Z.l i=ge at *
  have t2:True:=trivial
  have t3:True:=trivial
  have hpost:Hid ((decide (p.at'≠x))=(p.at' != x)):=by show _=_;rw [Bool.eq_iff_iff];simp
  generalize decide (p.at'≠x)=bb at *
  clear hcell hs hsu
  go_enter Tryz.func219,Tryz.ntmps219
  go_wp2_with (first
    | (go_at_call 220;refine hG.mono ?_;rintro e w4 ⟨d,n,rfl,m4,b4⟩;clear hG)
    | (clear t2;refine at_newP (by rfl) (by rfl) ?_;intro g5 w5 a5 a6 r5 b5)
    | (clear t3;refine at_putP (by rfl) _ _ (by rfl) g5 (by rfl) p d n (by rfl) _ r5 rfl ?_;intro w6 r6 s6))
  have B6:Below u.heap.size u w6:=((Stp.of_below (bnext b4 b5 (Nat.le_refl _)) (fun _=>False)).next s6 (fun x e=> .inr (by have:=b4.size;omega))).below (Nat.le_refl _) (fun x e=>e.elim)
  have B60:=bnext hu B6 (Nat.le_refl _)
  refine wp_region_held_drew (S:=fun v=>Below w6.heap.size w6 v) (by kernel_rfl) (Below.refl _ _).drew (fun hHeld=>?_)
  refine tk (i:=0) (oi:=⟨some 13, .fieldAddr 56 (.tmp 5) 1,0,_,#[],none⟩) (v:= .pointer (some ⟨g5,1,none⟩)) rfl (Or.inl ⟨by rfl,?_⟩) hHeld ?_
  · intro u hu
    go_simp
  try simp only [zp,zn,zq,zr,zs]
  refine tk (i:=1) (oi:=⟨some 14, .load 3 (.tmp 13),3,_,#[⟨0, .data⟩],none⟩) (v:= .int .i64 p.at') rfl (Or.inl ⟨by rfl,?_⟩) hHeld ?_
  · intro u hu
    have x1:=(Pt.cells (r6.later hu)).2.1;go_simp
  try simp only [zp,zn,zq,zr,zs]
  refine tk (i:=2) (oi:=⟨some 15, .load 54 (.tmp 2),54,_,#[],none⟩) (v:= .slice (some ⟨sb,so,none⟩) 1 sc) rfl (Or.inl ⟨by rfl,?_⟩) hHeld ?_
  · intro u hu
    have x1:=(Stp.of_below (bnext B60 hu (Nat.le_refl _)) (fun _=>False)).cell c30 id;go_simp
  try simp only [zp,zn,zq,zr,zs]
  refine tk (i:=3) (oi:=⟨some 16, .indexAddr 54 (.tmp 15) (.const (Value.int IntKind.i64 0)),0,_,#[⟨2, .data⟩],none⟩) (v:= .pointer (some ⟨sb,so,none⟩)) rfl (Or.inl ⟨by rfl,?_⟩) hHeld ?_
  · intro u hu
    go_simp
  try simp only [zp,zn,zq,zr,zs]
  refine tk (i:=4) (oi:=⟨some 17, .load 3 (.tmp 16),3,_,#[⟨3, .data⟩],none⟩) (v:= .int .i64 x) rfl (Or.inl ⟨by rfl,?_⟩) hHeld ?_
  · intro u hu
    have x1:=(Stp.of_below (bnext B60 hu (Nat.le_refl _)) (fun _=>False)).cell cx id;go_simp
  try simp only [zp,zn,zq,zr,zs]
  refine tk (i:=5) (oi:=⟨some 18, .binOp BinOp.neq 3 (.tmp 14) (.tmp 17) 3,4,_,#[⟨1, .data⟩,⟨4, .data⟩],none⟩) (v:= .bool (p.at' != x)) rfl (Or.inl ⟨by rfl,?_⟩) hHeld ?_
  · intro u hu
    go_simp
  try simp only [zp,zn,zq,zr,zs]
  refine tk (i:=6) (oi:=⟨some 4, .assign (.tmp 18),4,_,#[⟨5, .data⟩,⟨0, .phase⟩,⟨1, .phase⟩,⟨2, .phase⟩,⟨3, .phase⟩,⟨4, .phase⟩,⟨5, .phase⟩],none⟩) (v:= .bool (p.at' != x)) rfl (Or.inl ⟨by rfl,?_⟩) hHeld ?_
  · intro u hu
    go_simp
  try simp only [zp,zn,zq,zr,zs]
  refine wpAnyH_done (by kernel_rfl) ?_ _
  go_wp2_with fail
  go_returns
  exact⟨ret_bool hpost.out.symm,bnext B6 hHeld (Nat.le_refl _)⟩
set_option maxRecDepth 100000 in
set_option maxHeartbeats 2000000 in
theorem alone_any {w:World} {g mp mw:Nat} {f fw:Int→Option Value} {Z:GZ} {E F:Nat→Prop} (H:Gr w g mp mw f fw Z E F) (hnl:∀ p ∈ Z.l,p.needs.length≤100000) {s:Sv} {L:List Int} (hs:InsS w s L):
    Calls Tryz.prog 148 #[.pointer (some ⟨g,0,none⟩), .slice s.a s.n s.c] w fun e w'=>e= .returned (.bool (frS L Z.l))∧Below w.heap.size w w':=by
  have hsn:s.n=L.length:=hs.i.len.symm
  by_cases h1:L.length=1
  · obtain⟨x,rfl⟩:∃ x,L= [x]:=List.length_eq_one_iff.1 h1
    have b0:Below w.heap.size w (w.alloc (.cells #[.pointer (some ⟨g,0,none⟩)] 92)):=(Below.refl _ w).alloc (Nat.le_refl _) _
    have b1:Below w.heap.size w ((w.alloc (.cells #[.pointer (some ⟨g,0,none⟩)] 92)).alloc (.cells #[.slice s.a s.n s.c] 54)):=b0.alloc (Nat.le_trans (Nat.le_refl _) b0.size) _
    have hW:=written_any (H.later b1)
    have hwf:∀ i ∈ ids (thP Z.l (·.wr)),wfi i:=fun i hi=>by
      obtain⟨p,h2,h3⟩:=ids_mem.1 hi
      have:=H.ok.rng p (List.mem_filter.1 h2).1;have:=H.ok.lt
      exact wfi_of (by omega)
    have hlen:(ids (thP Z.l (·.wr))).length≤1000000:=by
      have h2:=H.ok.few
      have h3:(thP Z.l (·.wr)).length≤Z.l.length:=List.length_filter_le _ _
      unfold ids;rw [List.length_map];omega
    have hT:=tells_alone (H.later b1) hnl (hs.later b1) w.heap.size (w.heap.size+1) (by simp [go_sem]) (by simp [go_sem]) _ hwf
    have hfr:Hid (frS [x] Z.l= !((ids (thP Z.l (·.wr))).any fun i=>decide ((gt Z.l i).at'≠x))):=frS_yes H.ok.srt x
    have hC:=fun(u:World) (hu:Below ((w.alloc (.cells #[.pointer (some ⟨g,0,none⟩)] 92)).alloc (.cells #[.slice s.a s.n s.c] 54)).heap.size ((w.alloc (.cells #[.pointer (some ⟨g,0,none⟩)] 92)).alloc (.cells #[.slice s.a s.n s.c] 54)) u) (v:Sv) (hv:InsS u v (ids (thP Z.l (·.wr))))=>containsFunc_any hv hlen 219 #[.pointer (some ⟨w.heap.size,0,none⟩), .pointer (some ⟨w.heap.size+1,0,none⟩)] _ (fun u' i hi hu'=>hT u' i hi (bnext hu hu' (Nat.le_refl _))) enter_alone
    generalize ((ids (thP Z.l (·.wr))).any fun i=>decide ((gt Z.l i).at'≠x))=bb at *
    generalize frS [x] Z.l=fr at *
    clear hT
    have hsn':s.n=1:=hsn
    obtain⟨sa,sn,sc⟩:=s
    simp only at hsn'
    subst hsn'
    clear hsn h1
    go_enter Tryz.func148,Tryz.ntmps148
    go_wp2_with (first
      | (go_at_call 60;refine hW.mono ?_;rintro e w3 ⟨v3,rfl,o3,n3,b3⟩;clear hW
         obtain⟨s3,e3,_,i3,_⟩:=o3.ins hwf n3
         subst e3)
      | (go_at_call 218;refine(hC _ b3 s3 i3).mono ?_;rintro e w4 ⟨rfl,b4⟩;clear hC))
    go_returns
    exact⟨ret_bool hfr.out.symm,bnext (bnext b1 b3 (Nat.le_refl _)) b4 (Nat.le_refl _)⟩
  · have h1':¬(s.n:Int)=1:=by omega
    have hfr:Hid (frS L Z.l=false):=frS_no h1
    clear hsn h1
    have b0:Below w.heap.size w (w.alloc (.cells #[.pointer (some ⟨g,0,none⟩)] 92)):=(Below.refl _ w).alloc (Nat.le_refl _) _
    have b1:Below w.heap.size w ((w.alloc (.cells #[.pointer (some ⟨g,0,none⟩)] 92)).alloc (.cells #[.slice s.a s.n s.c] 54)):=b0.alloc (Nat.le_trans (Nat.le_refl _) b0.size) _
    go_enter Tryz.func148,Tryz.ntmps148
    go_wp2_with fail
    go_returns
    exact⟨ret_bool hfr.out.symm,b1⟩
theorem buildB0 (w:World):(Instr.build 170 #[]).run Tryz.prog w= .ok (.agg (btc (.slice none 0 0) false).toArray) w:=by kernel_rfl
theorem buildB2 (s:Sv) (b:Bool) (w:World):(Instr.build 170 #[(0, .slice s.a s.n s.c),(1, .bool b)]).run Tryz.prog w= .ok (.agg (btc (.slice s.a s.n s.c) b).toArray) w:=by kernel_rfl
section
variable {ops : Array Oper} {rest : List Oper} {o : Oper} {a : Act} {w : World} {Q : Exit → Act → World → Prop}
theorem at_bldB0 (hw:Region.wanted o (yielded ops a.tmps)=true) (ho:o.op= .build 170 #[])
    (h:wpList Tryz.prog ops Q rest (a.put o.dst (.agg (btc (.slice none 0 0) false).toArray)) w):wpList Tryz.prog ops Q (o::rest) a w:=by
  refine op_val hw _ _ ?_ h
  simp [execOp,ho,buildB0]
theorem at_bldB2 (hw:Region.wanted o (yielded ops a.tmps)=true) (x y:Operand) (ho:o.op= .build 170 #[(0,x),(1,y)]) (s:Sv) (hx:a.eval x= .slice s.a s.n s.c) (b:Bool) (hy:a.eval y= .bool b)
    (h:wpList Tryz.prog ops Q rest (a.put o.dst (.agg (btc (.slice s.a s.n s.c) b).toArray)) w):wpList Tryz.prog ops Q (o::rest) a w:=by
  refine op_val hw _ _ ?_ h
  simp [execOp,ho,hx,hy,buildB2]
theorem at_newBt (hw:Region.wanted o (yielded ops a.tmps)=true) (ho:o.op= .alloc 170)
    (h:∀ g w',w.heap.size≤g→g < w'.heap.size→Cs w' g (btc (.slice none 0 0) false)→Below w.heap.size w w'→wpList Tryz.prog ops Q rest (a.put o.dst (.pointer (some ⟨g,0,none⟩))) w'):wpList Tryz.prog ops Q (o::rest) a w:=
  at_newC 170 2 _ srtBt hw ho h
theorem at_getBt (hw:Region.wanted o (yielded ops a.tmps)=true) (y:Operand) (ho:o.op= .load 170 y) (g:Nat) (hx:a.eval y= .pointer (some ⟨g,0,none⟩)) (v:Value) (b:Bool) (hR:Cs w g (btc v b))
    (h:wpList Tryz.prog ops Q rest (a.put o.dst (.agg (btc v b).toArray)) w):wpList Tryz.prog ops Q (o::rest) a w:=
  at_getC 170 2 _ srtBt hw y ho g hx (btc v b) hR rfl h
theorem at_putBt (hw:Region.wanted o (yielded ops a.tmps)=true) (y z:Operand) (ho:o.op= .store 170 y z) (g:Nat) (hx:a.eval y= .pointer (some ⟨g,0,none⟩)) (v:Value) (hv:v.oneCell'=true) (b:Bool) (hy:a.eval z= .agg (btc v b).toArray) (cs:List Value) (hR:Cs w g cs) (hl:cs.length=2)
    (h:∀ w',Cs w' g (btc v b)→Stp (fun x=>x=g) w w'→wpList Tryz.prog ops Q rest (a.put o.dst undef) w'):wpList Tryz.prog ops Q (o::rest) a w:=
  at_putC 170 2 _ srtBt hw y z ho g hx (btc v b) hy rfl (btc_one hv b) cs hR hl h
end
def mor (is:List Int) (l:List Pt):Bool:= !(nd is l).isEmpty
theorem mor_no {is:List Int} {l:List Pt} (h:nd is l= []):mor is l=false∧bsS is l= []∧frS (bsS is l) l=false:=by
  have h2:bsS is l= []:=by
    unfold bsS
    rw [h]
    exact List.filter_eq_nil_iff.2 (fun s _=>by simp [ids])
  exact⟨by unfold mor;rw [h];rfl,h2,by rw [h2];rfl⟩
theorem mor_yes {is:List Int} {l:List Pt} (h:nd is l≠ []):mor is l=true:=by
  unfold mor
  cases hn:nd is l with
  | nil=>exact absurd hn h
  | cons a t=>rfl
theorem bsS_wfi {Z:GZ} {t:Int} (h:Z.ok t) (is:List Int):∀ s ∈ bsS is Z.l,wfi s:=fun s hs=>by
  have h1:=secs_mem.1 (List.mem_filter.1 hs).1
  obtain⟨x,hx⟩:=List.exists_mem_of_ne_nil _ h1
  obtain⟨p,p1,_,p3,_⟩:=wts_mem.1 hx
  have:=fit_to (h.ft p p1)
  exact wfi_of (by omega)
theorem nd_wfi {Z:GZ} (h:Z.ok 2000) (is:List Int):∀ x ∈ ids (nd is Z.l),wfi x:=fun x hx=>by
  obtain⟨p,p1,p2⟩:=ids_mem.1 hx
  have:=h.rng p (nd_sub is _ p p1);have:=h.lt
  exact wfi_of (by omega)
set_option maxRecDepth 100000 in
set_option maxHeartbeats 2000000 in
theorem next_any {w:World} {g mp mw:Nat} {f fw:Int→Option Value} {Z:GZ} {E F:Nat→Prop} (H:Gr w g mp mw f fw Z E F) {s:Sv} {is:List Int} (hs:InsS w s is) (hl:is.length≤1000) (hzl:Z.l.length≤100) (hn6:∀ p ∈ Z.l,p.needs.length≤6):
    Calls Tryz.prog 96 #[.pointer (some ⟨g,0,none⟩), .slice s.a s.n s.c] w fun e w'=>∃ v,e= .returned (.tuple #[.agg (btc v (frS (bsS is Z.l) Z.l)).toArray, .bool (mor is Z.l)])∧OwV w' v (bsS is Z.l)∧New w.heap.size v∧Below w.heap.size w w':=by
  have hnl:∀ p ∈ Z.l,p.needs.length≤100000:=fun p hp=>by have:=hn6 p hp;omega
  have hN:=fun(u:World) (hu:Below w.heap.size w u)=>needed_both (H.later hu) (hs.later hu) hl hzl hn6
  have hwf:=nd_wfi H.ok is
  have hwf2:=bsS_wfi H.ok is
  have hidl:(ids (nd is Z.l)).length=(nd is Z.l).length:=by unfold ids;rw [List.length_map]
  have t1:True:=trivial
  have t2:True:=trivial
  have t3:True:=trivial
  by_cases hn:nd is Z.l= []
  · obtain⟨e1,e2,e3⟩:=mor_no hn
    have hE:Hid (mor is Z.l=false∧bsS is Z.l= []∧frS (bsS is Z.l) Z.l=false):=⟨e1,e2,e3⟩
    rw [hn]at hN
    have hN':Hid (∀ (u:World) (hu:Below w.heap.size w u),Calls Tryz.prog 146 #[.pointer (some ⟨g,0,none⟩), .slice s.a s.n s.c] u fun e w'=>∃ v,e= .returned v∧OwV w' v (ids [])∧New u.heap.size v∧Below u.heap.size u w'):=hN
    clear hN e1 e2 e3 hn hidl hwf hwf2
    go_enter Tryz.func96,Tryz.ntmps96
    go_wp2_with (first
      | (clear t1;refine at_newBt (by rfl) (by rfl) ?_;intro g1 w1 a1 a2 r1 b1)
      | (go_at_call 146;refine(hN'.out _ b1).mono ?_;rintro e w2 ⟨v2,rfl,o2,n2,b2⟩;clear hN'
         obtain⟨xa,xc,rfl⟩:=OwV.zero o2
         replace r1:=r1.later b2)
      | (clear t2;refine at_bldB0 (by rfl) (by rfl) ?_)
      | (clear t3;refine at_putBt (by rfl) _ _ (by rfl) g1 (by rfl) (.slice none 0 0) rfl false (by rfl) _ r1 rfl ?_;intro w3 r3 s3))
    refine bodyPost_ret (retCt srtBt rfl rfl rfl r3 rfl) rfl ?_
    rw [hE.out.1,hE.out.2.2,hE.out.2.1]
    exact⟨_,rfl,OwV.nil _,(fun r e=>by cases e),((Stp.of_below (bnext b1 b2 (Nat.le_refl _)) (fun _=>False)).next s3 (fun x e=> .inr (by omega))).below (Nat.le_refl _) (fun x e=>e.elim)⟩
  · have hE:Hid (mor is Z.l=true):=mor_yes hn
    have hne:¬((ids (nd is Z.l)).length:Int)=0:=by
      rw [hidl]
      intro e
      exact hn (List.eq_nil_of_length_eq_zero (by omega))
    have hne':Hid (¬((ids (nd is Z.l)).length:Int)=0):=hne
    have hD:=fun(u:World) (hu:Below w.heap.size w u) (v:Sv) (hv:InsS u v (ids (nd is Z.l)))=>due_any (H.later hu) hnl (is:=is) hv
    have hA:=fun(u:World) (hu:Below w.heap.size w u) (v:Sv) (hv:InsS u v (bsS is Z.l))=>alone_any (H.later hu) hnl hv
    generalize frS (bsS is Z.l) Z.l=fr at *
    generalize bsS is Z.l=L at *
    generalize ids (nd is Z.l)=I at *
    clear hn hidl hne
    have hN':Hid (∀ (u:World) (hu:Below w.heap.size w u),Calls Tryz.prog 146 #[.pointer (some ⟨g,0,none⟩), .slice s.a s.n s.c] u fun e w'=>∃ v,e= .returned v∧OwV w' v I∧New u.heap.size v∧Below u.heap.size u w'):=hN
    clear hN
    go_enter Tryz.func96,Tryz.ntmps96
    go_wp2_with (first
      | (clear t1;refine at_newBt (by rfl) (by rfl) ?_;intro g1 w1 a1 a2 r1 b1)
      | (go_at_call 146;refine(hN'.out _ b1).mono ?_;rintro e w2 ⟨v2,rfl,o2,n2,b2⟩;clear hN'
         obtain⟨⟨sa,sn,sc⟩,e2,e3,i2, -⟩:=o2.ins hwf n2
         subst e2
         have hsn:¬(sn:Int)=0:=by simp only at e3;rw [e3];exact hne'.out
         clear e3
         have B2:=bnext b1 b2 (Nat.le_refl _)
         replace r1:=r1.later b2)
      | (go_at_call 147;refine(hD _ B2 ⟨sa,sn,sc⟩ i2).mono ?_;rintro e w3 ⟨v3,rfl,o3,n3,b3⟩;clear hD
         obtain⟨⟨ta,tn,tc⟩,e4, -,i3, -⟩:=o3.ins hwf2 n3
         subst e4
         have B3:=bnext B2 b3 (Nat.le_refl _)
         replace r1:=r1.later b3)
      | (go_at_call 148;refine(hA _ B3 ⟨ta,tn,tc⟩ i3).mono ?_;rintro e w4 ⟨rfl,b4⟩;clear hA
         replace r1:=r1.later b4)
      | (clear t2;refine at_bldB2 (by rfl) _ _ (by rfl) ⟨ta,tn,tc⟩ (by rfl) fr (by rfl) ?_)
      | (clear t3;refine at_putBt (by rfl) _ _ (by rfl) g1 (by rfl) (.slice ta tn tc) rfl fr (by rfl) _ r1 rfl ?_;intro w5 r5 s5))
    refine bodyPost_ret (retCt srtBt rfl rfl rfl r5 rfl) rfl ?_
    rw [hE.out]
    have z1:=r1.lt
    have z2:=B2.size
    have z3:=b2.size
    refine⟨_,rfl,(o3.later b4).step s5 (fun r hr e=>by have:=n3 r hr;omega),fun r hr=>by have:=n3 r hr;omega,((Stp.of_below (bnext B3 b4 (Nat.le_refl _)) (fun _=>False)).next s5 (fun x e=> .inr (by omega))).below (Nat.le_refl _) (fun x e=>e.elim)⟩
theorem cr_needs {Z:GZ} (hs:Rise Z.l) {n:Nat} (h:∀ p ∈ Z.l,p.needs.length≤n) (A:List Int):∀ p ∈ (Z.cr A).l,p.needs.length≤n:=by
  rw [(cr_setO A Z hs).1]
  intro p hp
  obtain⟨q,h1,h2⟩:=setO_mem.1 hp
  rw [h2]
  split
  · exact h q h1
  · exact h q h1
theorem car_len {Z:GZ} (hs:Rise Z.l) (A:List Int):(Z.car A).l.length≤Z.l.length:=by
  rw [(car_is Z hs A).1];exact List.length_filter_le _ _
theorem bsS_few {Z:GZ} {t:Int} (h:Z.ok t) (is:List Int):(bsS is Z.l).length≤Z.l.length:=by
  have h2:(bsS is Z.l).length≤(secs Z.l).length:=List.length_filter_le _ _
  have h4:=nodup_le (secs Z.l) (Z.l.map (·.at')) (rise_nodup (secs_rise _)) (fun x hx=>by
    have:=secs_mem.1 hx
    obtain⟨y,hy⟩:=List.exists_mem_of_ne_nil _ this
    obtain⟨p,q1,q2,q3,_⟩:=wts_mem.1 hy
    exact List.mem_map.2 ⟨p,q1,q3⟩)
  rw [List.length_map]at h4
  omega
end Go.Proofs.YtogdffonjhghcaaGreatDoor
