/-
  Texts of my own, joined: no statement is proved here.
-/
import Derived.Deep.DeepCutAuto
import Derived.Shelf.SlMaps.Clone
import Derived.Test.YtogdffonjhghcaaGreatDoorJbn
set_option linter.unusedSimpArgs false
set_option linter.unusedVariables false
namespace Go.Proofs.YtogdffonjhghcaaGreatDoor
open Go.ChangeShapes Go.WideShapes Go.ChangeAt Go.RowKit Go.Shelf
attribute [local go_sem] Oper.semAt_some
theorem OwV.zero {w:World} {v:Value} (h:OwV w v []):∃ a c,v= .slice a 0 c:=by
  rcases h.row with⟨e,_⟩ | ⟨g,cap,cur,e,_⟩
  · exact⟨_,_,e⟩
  · exact⟨_,_,e⟩
set_option maxRecDepth 100000 in
set_option maxHeartbeats 4000000 in
theorem needed_zero {w:World} {g mp mw:Nat} {f fw:Int→Option Value} {Z:GZ} {E F:Nat→Prop} (H:Gr w g mp mw f fw Z E F) {s:Sv} {l:List Int} (hs:InsS w s l) (hl:l.length≤1000) (hz:Z.l= []):
    Calls Tryz.prog 146 #[.pointer (some ⟨g,0,none⟩), .slice s.a s.n s.c] w fun e w'=>e= .returned (.slice none 0 0)∧Below w.heap.size w w':=by
  have hmm:= @run_makeMap Tryz.prog
  refine(callsIn_wide (n:=6)).1 ?_
  refine callsIn_of_wp_marks Tryz.func146 rfl trivial ?_ rfl
  simp only [Tryz.ntmps146,List.size_toArray,List.length_cons,List.length_nil,Nat.reduceAdd,Nat.reduceSub,Array.replicate_succ,Array.replicate_zero,List.push_toArray,List.append_toArray,List.nil_append,List.cons_append]
  refine wpIn_wide.2 ?_
  have bA:=wA_b w (.pointer (some ⟨g,0,none⟩))
  have hW:=want_any (wA_m w (.pointer (some ⟨g,0,none⟩))) (hs.later bA) (by omega)
  have gA:=wA_g w (.pointer (some ⟨g,0,none⟩)) rfl
  unfold wA at hW
  go_wp2_with (first
    | (go_at_call 208;refine hW.mono ?_;rintro e w3 ⟨rfl,M3,s3⟩;clear hW
       have B3:Below w.heap.size w w3:=((Stp.of_below bA (fun _=>False)).next s3 (fun x e=> .inr (by omega))).below (Nat.le_refl _) (fun x e=>e.elim)
       have g3:=gA.step s3 (by omega)
       have bB:=wB_b w3
       have gB:=(g3.later bB).cell 0 _ rfl
       have lB:=wB_l w3
       have B4:=bnext B3 bB (Nat.le_refl _)
       have hAll:=all_any (H.later B4)
       rw [hz]at hAll
       unfold wB at gB hAll)
    | (go_at_call 58;refine hAll.mono ?_;rintro e w4 ⟨va,rfl,o4,n4,b4⟩;clear hAll
       obtain⟨xa,xc,rfl⟩:=OwV.zero o4)
    | (go_at_call 209;refine(back_any _ _ _ _).mono ?_;rintro e w5 ⟨bx,rfl,h5,r5,b5⟩
       have l5:=(lB.later b4).later b5)
    )
  refine(wpIn_wide (n:=6)).1 ?_
  have b4':Below (wB w3).heap.size (wB w3) w4:=b4
  have z4:=b4'.size
  have z5:=b5.size
  have zB:=bB.size
  have lt5:=l5.lt
  have B5:Below w.heap.size w w5:=bnext (bnext B4 b4' (Nat.le_refl _)) b5 (Nat.le_refl _)
  refine wpIn_rangeFunc_ownG (F:=Fence.wide) (n:=6) (w0:=w5) rfl (by omega) (gf:=266) (lb:=#[.pointer (some ⟨bx,0,none⟩)]) rfl trivial (enters_of Tryz.func266 (by kernel_rfl) rfl)
    (back0_stops 5 r5) (fun _ _=>trivial) (fun _ _ _ _ _ _ _ _=>trivial) (Below.refl _ _) (fun _=>rfl)
    (fun _ W=>Cs W (w3.heap.size+1+1) [.slice none 0 0]∧Below w.heap.size w W)
    (fun _ _ _=>False)
    (ownFrom_stp fun s W W' h k=>⟨h.1.step k (by omega),h.2.trans (k.below (Nat.le_trans (Nat.le_refl _) h.2.size) (fun x hx=>Nat.le_trans B5.size hx))⟩)
    (fun _ _ _ _ _ hs _ _=>hs)
    ⟨l5,B5⟩ ?a1 ?assign ?body ?done ?stop
  case assign=>
    intro l x W K hK
    gi_wp2
    exact hK
  case body=>exact fun l pre x W _ hlt=>absurd hlt (Nat.not_lt_zero _)
  case stop=>exact fun D c pre W _ _ h _=>h.elim
  case done=>
    rintro D ys W hD rfl ⟨hC,hB⟩ hK
    have c7:=hC.cell 0 _ rfl
    go_wp2_with (first | (go_at_call 212;refine(reverse_none _).mono ?_;rintro e w6 ⟨rfl,rfl⟩))
    refine⟨by simp, .inl ⟨_,_,rfl,run_takeDeferred hK,?_⟩⟩
    exact⟨_,results_tmp rfl _ _ _,rfl,hB.trans (belowK_b (w:=w) (Nat.le_refl _) W D _ _ (by have:=B5.size;omega) hK rfl rfl)⟩
theorem needed_both {w:World} {g mp mw:Nat} {f fw:Int→Option Value} {Z:GZ} {E F:Nat→Prop} (H:Gr w g mp mw f fw Z E F) {s:Sv} {is:List Int} (hs:InsS w s is) (hl:is.length≤1000) (hzl:Z.l.length≤100) (hn6:∀ p ∈ Z.l,p.needs.length≤6):
    Calls Tryz.prog 146 #[.pointer (some ⟨g,0,none⟩), .slice s.a s.n s.c] w fun e w'=>∃ v,e= .returned v∧OwV w' v (ids (nd is Z.l))∧New w.heap.size v∧Below w.heap.size w w':=by
  by_cases h:0 < Z.l.length
  · exact needed_any H hs hl hzl hn6 h
  · have hz:Z.l= []:=List.eq_nil_of_length_eq_zero (by omega)
    refine(needed_zero H hs hl hz).mono ?_
    rintro e w' ⟨rfl,b⟩
    exact⟨_,rfl,by rw [hz];exact OwV.nil _,(fun r e=>by cases e),b⟩
end Go.Proofs.YtogdffonjhghcaaGreatDoor
namespace Go.Proofs.YtogdffonjhghcaaGreatDoor
open Go.ChangeShapes Go.WideShapes Go.ChangeAt Go.RowKit Go.Shelf
section
variable {ops : Array Oper} {o : Oper} {a : Act} {w : World} {K : Act → World → Prop} {Q : Exit → Act → World → Prop} {R : Prop} {S : World → Prop}
theorem step_boxC (T:Nat) (hgd:o.guard=none) (x:Operand) (ho:o.op= .box T x) (cs:List Value) (hx:a.eval x= .agg cs.toArray) (h1:∀ v ∈ cs,v.oneCell'=true)
    (h:∀ g w',w.heap.size≤g→g < w'.heap.size→Cs w' g cs→Below w.heap.size w w'→K (a.put o.dst (.pointer (some ⟨g,0,none⟩))) w'):if Region.wanted o (yielded ops a.tmps)=true then Oper.wp Tryz.prog o a w K Q else R:=by
  have hw:Region.wanted o (yielded ops a.tmps)=true:=by simp [Region.wanted,hgd]
  rw [if_pos hw]
  have h0:(Instr.box T (.agg cs.toArray)).run Tryz.prog w= .ok (.pointer (some ⟨w.heap.size,0,none⟩)) (w.alloc (.cells cs.toArray T)):=by
    simp [Instr.box,newVar,Value.cells,go_sem]
  have hr:(execOp a.eval o).run Tryz.prog w= .ok (.value (.pointer (some ⟨w.heap.size,0,none⟩))) (w.alloc (.cells cs.toArray T)):=by simp [execOp,ho,hx,h0]
  unfold Oper.wp
  rw [hr]
  exact h w.heap.size _ (Nat.le_refl _) (by simp) (Cs.made w cs T h1) ((Below.refl _ _).alloc (Nat.le_refl _) _)
end
end Go.Proofs.YtogdffonjhghcaaGreatDoor
