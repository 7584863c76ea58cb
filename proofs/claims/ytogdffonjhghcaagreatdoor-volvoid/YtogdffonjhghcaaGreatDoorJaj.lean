/-
  Texts of my own, joined: no statement is proved here.
-/
import Derived.Lib.Walk
import Derived.Test.YtogdffonjhghcaaGreatDoorJai
set_option linter.unusedSimpArgs false
set_option linter.unusedVariables false
namespace Go.Proofs.YtogdffonjhghcaaGreatDoor
open Go.ChangeShapes Go.WideShapes Go.ChangeAt Go.RowKit
section
variable {w : World} {g : Nat} {p : Pt} {d n : Sv}
theorem Pt.cells (h:Cs w g (p.cs d n)):w.cell? ⟨g,0,none⟩=some (.int .i64 p.id)∧w.cell? ⟨g,1,none⟩=some (.int .i64 p.at')∧w.cell? ⟨g,2,none⟩=some (.int .i64 p.off)∧w.cell? ⟨g,3,none⟩=some (.slice d.a d.n d.c)∧w.cell? ⟨g,4,none⟩=some (.int .i64 p.kind)∧w.cell? ⟨g,5,none⟩=some (.slice n.a n.n n.c)∧w.cell? ⟨g,6,none⟩=some (.int .i64 p.own)∧w.cell? ⟨g,7,none⟩=some (.int .i64 p.child)∧w.cell? ⟨g,8,none⟩=some (.bool p.wr):=
  ⟨h.cell 0 _ rfl,h.cell 1 _ rfl,h.cell 2 _ rfl,h.cell 3 _ rfl,h.cell 4 _ rfl,h.cell 5 _ rfl,h.cell 6 _ rfl,h.cell 7 _ rfl,h.cell 8 _ rfl⟩
end
set_option maxRecDepth 100000 in
set_option maxHeartbeats 2000000 in
theorem fits_any (p:Pt) (d n:Sv) (w:World) (hp:p.wfp) (hd:d.n=p.data.length) (hb:p.data.length≤1000000):
    Calls Tryz.prog 142 #[.agg (p.cs d n).toArray] w fun e w'=>e= .returned (.bool (fit p))∧Below w.heap.size w w':=by
  have h1:=wfi_to hp.s
  have h2:=wfi_to hp.o
  have h3:=wfi_to hp.k
  have hl:(0:Int)≤(d.n:Int):=by omega
  have hl2:(d.n:Int)≤1000000:=by omega
  have hE:Hid (fit p=(decide (0≤p.at')&&decide (p.at' < 2048)&&decide (0≤p.kind)&&decide (p.kind≤6)&&decide (0 < (d.n:Int))&&decide (0≤p.off)&&decide (p.off≤(if p.kind=0 then 64 else 54) - (d.n:Int)))):=by
    show _=_;unfold fit;rw [hd]
  clear hd hb hp
  have tok:True:=trivial
  go_enter Tryz.func142,Tryz.ntmps142
  go_wp2_with (first
    | (clear tok;refine at_boxP (by rfl) _ (by rfl) p d n (by rfl) ?_;intro g1 w1 a1 a2 r1 b1;obtain⟨c0,c1,c2,c3,c4,c5,c6,c7,c8⟩:=Pt.cells r1;clear c0 c5 c6 c7 c8))
  all_goals
    go_returns
    refine⟨ret_bool ?_,b1⟩
    rw [hE.out]
    clear hE c1 c2 c3 c4 r1 b1
    simp_all
    try omega
set_option maxRecDepth 100000 in
set_option maxHeartbeats 2000000 in
theorem clone_b {w:World} {s:Sv} {l:List Int} (h:BsS w s l) (hl:l.length≤100000):
    Calls Tryz.prog 194 #[.slice s.a s.n s.c] w fun e w'=>∃ s':Sv,e= .returned (.slice s'.a s'.n s'.c)∧BsS w' s' l∧InE (fun x=>w.heap.size≤x∧x < w'.heap.size) s'∧Below w.heap.size w w':=by
  have hlen:l.length=s.n:=h.len
  have hcs:=h.cells
  have qnB:∀ (w:World) (a:Option Addr) (n c n' c':Nat),(binOp .eql 53 (.slice a n c) (.slice none n' c')).run Tryz.prog w= .ok (.bool a.isNone) w:=fun w a n c n' c'=>Lib.run_eql_slice_nil w _ _ a n c n' c' elB.und
  have qnI:∀ (w:World) (a:Option Addr) (n c n' c':Nat),(binOp .eql 54 (.slice a n c) (.slice none n' c')).run Tryz.prog w= .ok (.bool a.isNone) w:=fun w a n c n' c'=>Lib.run_eql_slice_nil w _ _ a n c n' c' elI.und
  have hz:=h.zero
  have hby:=h.byte
  obtain⟨sa,sn,sc⟩:=s
  simp only at hlen hcs hz ⊢
  subst hlen
  have fin:∀ v' w',Apd (w.alloc (.cells #[] 5)) w.heap.size 5 1 (.slice (some ⟨w.heap.size,0,none⟩) 0 0) 0 l.length ([]++l.map (Value.int .u8)) v' w'→
      ∃ s':Sv,Ending.returned v'= .returned (.slice s'.a s'.n s'.c)∧BsS w' s' l∧InE (fun x=>w.heap.size≤x∧x < w'.heap.size) s'∧Below w.heap.size w w':=by
    intro v' w' hA
    obtain⟨h1,h2,h3,h4,h5⟩:=hA
    rw [Nat.zero_add,List.nil_append]at h1
    obtain⟨s',rfl,e2,e3,e4⟩:=ro_bs h1 hby h2
    refine⟨s',rfl,e3,e4,?_⟩
    have k0:Stp (fun _=>False) w (w.alloc (.cells #[] 5)):=Stp.of_alloc _ _ _
    exact(k0.next h4 (F':=fun x=>some w.heap.size=some x) (fun x e=> .inr (by injection e with e;omega))).below (Nat.le_refl _) (fun x e=>e.elim)
  have q0:(w.alloc (.cells #[] 5)).ownsRow 0 5 1 (.slice (some ⟨w.heap.size,0,none⟩) 0 0) 0 []:=World.ownsRow_made w #[] 0 (Nat.zero_le _) (Nat.zero_le _) rfl
  have hN:New w.heap.size (.slice (some ⟨w.heap.size,0,none⟩) 0 0):=fun r e=>by
    have:w.heap.size=r:=by simpa [Value.ownBlock]using e
    omega
  have hcs':∀ ad,sa=some ad→∀ j u,(l.map (Value.int .u8))[j]? =some u→(w.alloc (.cells #[] 5)).cell? (ad.add j)=some u:=fun ad e j u hu=>by
    have:=hcs ad e j u hu
    rw [((Below.refl _ w).alloc (Nat.le_refl _) (.cells #[] 5)).cell (World.block_lt_of_cell? w _ this)];exact this
  cases sa with
  | none=>
    obtain⟨z1,z2,rfl⟩:=hz rfl
    subst z2
    simp only [List.length_nil]at fin hcs' ⊢
    go_enter Tryz.func194,Tryz.ntmps194
    go_wp2
    go_returns
    exact⟨Sv.nil,rfl,bsS_nil w,InE.nil _,Below.refl _ _⟩
  | some ad=>
    go_enter Tryz.func194,Tryz.ntmps194
    go_wp2_with (first
      | (refine at_appR elB w.heap.size rfl _ _ (by rfl) (by rfl) q0 hN (some ad) sc (l.map (Value.int .u8)) (by rfl) (by simp) (fun e=>by cases e) hcs' (fun u hu=>by obtain⟨x,_,rfl⟩:=List.mem_map.1 hu;rfl) (by omega) (by simp) ?_;intro v' w' hA;obtain⟨s',e1,e2⟩:=fin v' w' hA;injection e1 with e1;subst e1))
    go_returns
    exact⟨s',rfl,e2⟩
set_option maxRecDepth 100000 in
set_option maxHeartbeats 2000000 in
theorem clone_i {w:World} {s:Sv} {l:List Int} (h:InsS w s l) (hl:l.length≤100000):
    Calls Tryz.prog 95 #[.slice s.a s.n s.c] w fun e w'=>∃ s':Sv,e= .returned (.slice s'.a s'.n s'.c)∧InsS w' s' l∧InE (fun x=>w.heap.size≤x∧x < w'.heap.size) s'∧Below w.heap.size w w':=by
  have hlen:l.length=s.n:=h.i.len
  have hcs:=h.cells
  have qnB:∀ (w:World) (a:Option Addr) (n c n' c':Nat),(binOp .eql 53 (.slice a n c) (.slice none n' c')).run Tryz.prog w= .ok (.bool a.isNone) w:=fun w a n c n' c'=>Lib.run_eql_slice_nil w _ _ a n c n' c' elB.und
  have qnI:∀ (w:World) (a:Option Addr) (n c n' c':Nat),(binOp .eql 54 (.slice a n c) (.slice none n' c')).run Tryz.prog w= .ok (.bool a.isNone) w:=fun w a n c n' c'=>Lib.run_eql_slice_nil w _ _ a n c n' c' elI.und
  have hz:=h.zero
  have hby:=h.i.wf
  obtain⟨sa,sn,sc⟩:=s
  simp only at hlen hcs hz ⊢
  subst hlen
  have fin:∀ v' w',Apd (w.alloc (.cells #[] 3)) w.heap.size 3 1 (.slice (some ⟨w.heap.size,0,none⟩) 0 0) 0 l.length ([]++l.map (Value.int .i64)) v' w'→
      ∃ s':Sv,Ending.returned v'= .returned (.slice s'.a s'.n s'.c)∧InsS w' s' l∧InE (fun x=>w.heap.size≤x∧x < w'.heap.size) s'∧Below w.heap.size w w':=by
    intro v' w' hA
    obtain⟨h1,h2,h3,h4,h5⟩:=hA
    rw [Nat.zero_add,List.nil_append]at h1
    obtain⟨s',rfl,e2,e3,e4⟩:=ro_ins h1 hby h2
    refine⟨s',rfl,e3,e4,?_⟩
    have k0:Stp (fun _=>False) w (w.alloc (.cells #[] 3)):=Stp.of_alloc _ _ _
    exact(k0.next h4 (F':=fun x=>some w.heap.size=some x) (fun x e=> .inr (by injection e with e;omega))).below (Nat.le_refl _) (fun x e=>e.elim)
  have q0:(w.alloc (.cells #[] 3)).ownsRow 0 3 1 (.slice (some ⟨w.heap.size,0,none⟩) 0 0) 0 []:=World.ownsRow_made w #[] 0 (Nat.zero_le _) (Nat.zero_le _) rfl
  have hN:New w.heap.size (.slice (some ⟨w.heap.size,0,none⟩) 0 0):=fun r e=>by
    have:w.heap.size=r:=by simpa [Value.ownBlock]using e
    omega
  have hcs':∀ ad,sa=some ad→∀ j u,(l.map (Value.int .i64))[j]? =some u→(w.alloc (.cells #[] 3)).cell? (ad.add j)=some u:=fun ad e j u hu=>by
    have:=hcs ad e j u hu
    rw [((Below.refl _ w).alloc (Nat.le_refl _) (.cells #[] 3)).cell (World.block_lt_of_cell? w _ this)];exact this
  cases sa with
  | none=>
    obtain⟨z1,z2,rfl⟩:=hz rfl
    subst z2
    simp only [List.length_nil]at fin hcs' ⊢
    go_enter Tryz.func95,Tryz.ntmps95
    go_wp2
    go_returns
    exact⟨Sv.nil,rfl,InsS.nil w,InE.nil _,Below.refl _ _⟩
  | some ad=>
    go_enter Tryz.func95,Tryz.ntmps95
    go_wp2_with (first
      | (refine at_appR elI w.heap.size rfl _ _ (by rfl) (by rfl) q0 hN (some ad) sc (l.map (Value.int .i64)) (by rfl) (by simp) (fun e=>by cases e) hcs' (fun u hu=>by obtain⟨x,_,rfl⟩:=List.mem_map.1 hu;rfl) (by omega) (by simp) ?_;intro v' w' hA;obtain⟨s',e1,e2⟩:=fin v' w' hA;injection e1 with e1;subst e1))
    go_returns
    exact⟨s',rfl,e2⟩
end Go.Proofs.YtogdffonjhghcaaGreatDoor
