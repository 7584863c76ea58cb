/-
  Texts of my own, joined: no statement is proved here.
-/
import Derived.Deep.DeepCutAuto
import Derived.Laws.IdiomStrings
import Derived.Test.YtdnjddpfcgginaaGreatKau
set_option linter.unusedSimpArgs false
set_option linter.unusedVariables false
namespace Go.Proofs.YtdnjddpfcgginaaGreat
open Go.ChangeShapes Go.WideShapes Go.ChangeAt Go.RowKit
set_option maxRecDepth 100000
set_option maxHeartbeats 4000000 in
theorem mt42 {w:World} {g mb qi qj:Nat} {i j ln L:Int} {mv:Option Nat} (h1:¬j=0) (t0:w.cell? ⟨g,0,none⟩=some (.map (some mb))) (lo:(Instr.lookup 68 (.map (some mb)) (.int .i64 i) false).run Tryz.prog w= .ok (.pointer (some ⟨qi,0,none⟩)) w) (n1:w.cell? ⟨qi,1,none⟩=some (.int .i64 ln))
 (loj:(Instr.lookup 68 (.map (some mb)) (.int .i64 j) false).run Tryz.prog w= .ok (.pointer (some ⟨qj,0,none⟩)) w) (n3:w.cell? ⟨qj,3,none⟩=some (.map mv)) (q0:∀ ty,(Builtin.len_ #[71] ty #[.map mv]).run Tryz.prog w= .ok (.int .i64 L) w)
 (hD:Calls Tryz.prog 104 #[.pointer (some ⟨g,0,none⟩), .int .i64 i] w fun e w'=>e= .returned (.bool true)∧w=w') (hDj:Calls Tryz.prog 104 #[.pointer (some ⟨g,0,none⟩), .int .i64 j] w fun e w'=>e= .returned (.bool false)∧w=w'):Calls Tryz.prog 107 #[.pointer (some ⟨g,0,none⟩), .int .i64 i, .int .i64 j] w fun e w'=>e= .returned (.int .i64 42)∧w=w':=by
 have qj:(j != 0)=true:=by simpa using h1
 clear h1
 have k0:=hD
 have k1:=hDj
 clear hD hDj
 go_enter Tryz.func107,Tryz.ntmps107
 go_wp2_with (first
  | (go_at_call 104;refine k0.mono ?_;clear k0;rintro e u ⟨rfl,rfl⟩)
  | (go_at_call 104;refine k1.mono ?_;clear k1;rintro e u ⟨rfl,rfl⟩))
 go_returns
 exact⟨rfl,rfl⟩
set_option maxHeartbeats 4000000 in
theorem mt43 {w:World} {g mb qi qj:Nat} {i j ln L:Int} {mv:Option Nat} (h1:¬j=0) (t0:w.cell? ⟨g,0,none⟩=some (.map (some mb))) (lo:(Instr.lookup 68 (.map (some mb)) (.int .i64 i) false).run Tryz.prog w= .ok (.pointer (some ⟨qi,0,none⟩)) w) (n1:w.cell? ⟨qi,1,none⟩=some (.int .i64 ln))
 (loj:(Instr.lookup 68 (.map (some mb)) (.int .i64 j) false).run Tryz.prog w= .ok (.pointer (some ⟨qj,0,none⟩)) w) (n3:w.cell? ⟨qj,3,none⟩=some (.map mv)) (q0:∀ ty,(Builtin.len_ #[71] ty #[.map mv]).run Tryz.prog w= .ok (.int .i64 L) w)
 (hD:Calls Tryz.prog 104 #[.pointer (some ⟨g,0,none⟩), .int .i64 i] w fun e w'=>e= .returned (.bool false)∧w=w') (hDj:Calls Tryz.prog 104 #[.pointer (some ⟨g,0,none⟩), .int .i64 j] w fun e w'=>e= .returned (.bool true)∧w=w'):Calls Tryz.prog 107 #[.pointer (some ⟨g,0,none⟩), .int .i64 i, .int .i64 j] w fun e w'=>e= .returned (.int .i64 43)∧w=w':=by
 have qj:(j != 0)=true:=by simpa using h1
 clear h1
 have k0:=hD
 have k1:=hD
 have k2:=hDj
 clear hD hDj
 go_enter Tryz.func107,Tryz.ntmps107
 go_wp2_with (first
  | (go_at_call 104;refine k0.mono ?_;clear k0;rintro e u ⟨rfl,rfl⟩)
  | (go_at_call 104;refine k1.mono ?_;clear k1;rintro e u ⟨rfl,rfl⟩)
  | (go_at_call 104;refine k2.mono ?_;clear k2;rintro e u ⟨rfl,rfl⟩))
 go_returns
 exact⟨rfl,rfl⟩
set_option maxHeartbeats 4000000 in
theorem Zf8 {w:World} {g mb qi qj:Nat} {i j ln L:Int} {mv:Option Nat} (h1:¬j=0) (t0:w.cell? ⟨g,0,none⟩=some (.map (some mb))) (lo:(Instr.lookup 68 (.map (some mb)) (.int .i64 i) false).run Tryz.prog w= .ok (.pointer (some ⟨qi,0,none⟩)) w) (n1:w.cell? ⟨qi,1,none⟩=some (.int .i64 ln))
 (loj:(Instr.lookup 68 (.map (some mb)) (.int .i64 j) false).run Tryz.prog w= .ok (.pointer (some ⟨qj,0,none⟩)) w) (n3:w.cell? ⟨qj,3,none⟩=some (.map mv)) (q0:∀ ty,(Builtin.len_ #[71] ty #[.map mv]).run Tryz.prog w= .ok (.int .i64 L) w) (hL:0 < L)
 (hD:Calls Tryz.prog 104 #[.pointer (some ⟨g,0,none⟩), .int .i64 i] w fun e w'=>e= .returned (.bool true)∧w=w') (hDj:Calls Tryz.prog 104 #[.pointer (some ⟨g,0,none⟩), .int .i64 j] w fun e w'=>e= .returned (.bool true)∧w=w'):Calls Tryz.prog 107 #[.pointer (some ⟨g,0,none⟩), .int .i64 i, .int .i64 j] w fun e w'=>e= .returned (.int .i64 44)∧w=w':=by
 have qj:(j != 0)=true:=by simpa using h1
 clear h1
 have k0:=hD
 have k1:=hDj
 have k2:=hD
 clear hD hDj
 go_enter Tryz.func107,Tryz.ntmps107
 go_wp2_with (first
  | (go_at_call 104;refine k0.mono ?_;clear k0;rintro e u ⟨rfl,rfl⟩)
  | (go_at_call 104;refine k1.mono ?_;clear k1;rintro e u ⟨rfl,rfl⟩)
  | (go_at_call 104;refine k2.mono ?_;clear k2;rintro e u ⟨rfl,rfl⟩))
 go_returns
 exact⟨rfl,rfl⟩
set_option maxHeartbeats 4000000 in
theorem Zfa {w:World} {g mb qi qj:Nat} {i j ln L:Int} {mv:Option Nat} (h1:¬j=0) (t0:w.cell? ⟨g,0,none⟩=some (.map (some mb))) (lo:(Instr.lookup 68 (.map (some mb)) (.int .i64 i) false).run Tryz.prog w= .ok (.pointer (some ⟨qi,0,none⟩)) w) (n1:w.cell? ⟨qi,1,none⟩=some (.int .i64 ln))
 (loj:(Instr.lookup 68 (.map (some mb)) (.int .i64 j) false).run Tryz.prog w= .ok (.pointer (some ⟨qj,0,none⟩)) w) (n3:w.cell? ⟨qj,3,none⟩=some (.map mv)) (q0:∀ ty,(Builtin.len_ #[71] ty #[.map mv]).run Tryz.prog w= .ok (.int .i64 L) w) (hL:L=0) (hn:200≤ln)
 (hD:Calls Tryz.prog 104 #[.pointer (some ⟨g,0,none⟩), .int .i64 i] w fun e w'=>e= .returned (.bool true)∧w=w') (hDj:Calls Tryz.prog 104 #[.pointer (some ⟨g,0,none⟩), .int .i64 j] w fun e w'=>e= .returned (.bool true)∧w=w'):Calls Tryz.prog 107 #[.pointer (some ⟨g,0,none⟩), .int .i64 i, .int .i64 j] w fun e w'=>e= .returned (.int .i64 48)∧w=w':=by
 subst hL
 have qj:(j != 0)=true:=by simpa using h1
 clear h1
 have k0:=hD
 have k1:=hDj
 have k2:=hD
 clear hD hDj
 go_enter Tryz.func107,Tryz.ntmps107
 go_wp2_with (first
  | (go_at_call 104;refine k0.mono ?_;clear k0;rintro e u ⟨rfl,rfl⟩)
  | (go_at_call 104;refine k1.mono ?_;clear k1;rintro e u ⟨rfl,rfl⟩)
  | (go_at_call 104;refine k2.mono ?_;clear k2;rintro e u ⟨rfl,rfl⟩))
 go_returns
 exact⟨rfl,rfl⟩
set_option maxHeartbeats 4000000 in
theorem Zf6 {w:World} {g mb qi qj:Nat} {i j ln L:Int} {mv:Option Nat} (h1:¬j=0) (t0:w.cell? ⟨g,0,none⟩=some (.map (some mb))) (lo:(Instr.lookup 68 (.map (some mb)) (.int .i64 i) false).run Tryz.prog w= .ok (.pointer (some ⟨qi,0,none⟩)) w) (n1:w.cell? ⟨qi,1,none⟩=some (.int .i64 ln))
 (loj:(Instr.lookup 68 (.map (some mb)) (.int .i64 j) false).run Tryz.prog w= .ok (.pointer (some ⟨qj,0,none⟩)) w) (n3:w.cell? ⟨qj,3,none⟩=some (.map mv)) (q0:∀ ty,(Builtin.len_ #[71] ty #[.map mv]).run Tryz.prog w= .ok (.int .i64 L) w) (hL:L=0) (hn:ln < 200)
 (hD:Calls Tryz.prog 104 #[.pointer (some ⟨g,0,none⟩), .int .i64 i] w fun e w'=>e= .returned (.bool true)∧w=w') (hDj:Calls Tryz.prog 104 #[.pointer (some ⟨g,0,none⟩), .int .i64 j] w fun e w'=>e= .returned (.bool true)∧w=w'):Calls Tryz.prog 107 #[.pointer (some ⟨g,0,none⟩), .int .i64 i, .int .i64 j] w fun e w'=>e= .returned (.int .i64 0)∧w=w':=by
 subst hL
 have qj:(j != 0)=true:=by simpa using h1
 clear h1
 have k0:=hD
 have k1:=hDj
 have k2:=hD
 clear hD hDj
 go_enter Tryz.func107,Tryz.ntmps107
 go_wp2_with (first
  | (go_at_call 104;refine k0.mono ?_;clear k0;rintro e u ⟨rfl,rfl⟩)
  | (go_at_call 104;refine k1.mono ?_;clear k1;rintro e u ⟨rfl,rfl⟩)
  | (go_at_call 104;refine k2.mono ?_;clear k2;rintro e u ⟨rfl,rfl⟩))
 go_returns
 exact⟨rfl,rfl⟩
set_option maxHeartbeats 4000000 in
theorem Zf7 {w:World} {g mb qi qj:Nat} {i j ln L:Int} {mv:Option Nat} (h1:¬j=0) (t0:w.cell? ⟨g,0,none⟩=some (.map (some mb))) (lo:(Instr.lookup 68 (.map (some mb)) (.int .i64 i) false).run Tryz.prog w= .ok (.pointer (some ⟨qi,0,none⟩)) w) (n1:w.cell? ⟨qi,1,none⟩=some (.int .i64 ln))
 (loj:(Instr.lookup 68 (.map (some mb)) (.int .i64 j) false).run Tryz.prog w= .ok (.pointer (some ⟨qj,0,none⟩)) w) (n3:w.cell? ⟨qj,3,none⟩=some (.map mv)) (q0:∀ ty,(Builtin.len_ #[71] ty #[.map mv]).run Tryz.prog w= .ok (.int .i64 L) w) (hL:0 < L)
 (hD:Calls Tryz.prog 104 #[.pointer (some ⟨g,0,none⟩), .int .i64 i] w fun e w'=>e= .returned (.bool false)∧w=w') (hDj:Calls Tryz.prog 104 #[.pointer (some ⟨g,0,none⟩), .int .i64 j] w fun e w'=>e= .returned (.bool false)∧w=w'):Calls Tryz.prog 107 #[.pointer (some ⟨g,0,none⟩), .int .i64 i, .int .i64 j] w fun e w'=>e= .returned (.int .i64 44)∧w=w':=by
 have qj:(j != 0)=true:=by simpa using h1
 clear h1
 have k0:=hD
 have k1:=hD
 have k2:=hDj
 clear hD hDj
 go_enter Tryz.func107,Tryz.ntmps107
 go_wp2_with (first
  | (go_at_call 104;refine k0.mono ?_;clear k0;rintro e u ⟨rfl,rfl⟩)
  | (go_at_call 104;refine k1.mono ?_;clear k1;rintro e u ⟨rfl,rfl⟩)
  | (go_at_call 104;refine k2.mono ?_;clear k2;rintro e u ⟨rfl,rfl⟩))
 go_returns
 exact⟨rfl,rfl⟩
set_option maxHeartbeats 4000000 in
theorem Zf9 {w:World} {g mb qi qj:Nat} {i j ln L:Int} {mv:Option Nat} (h1:¬j=0) (t0:w.cell? ⟨g,0,none⟩=some (.map (some mb))) (lo:(Instr.lookup 68 (.map (some mb)) (.int .i64 i) false).run Tryz.prog w= .ok (.pointer (some ⟨qi,0,none⟩)) w) (n1:w.cell? ⟨qi,1,none⟩=some (.int .i64 ln))
 (loj:(Instr.lookup 68 (.map (some mb)) (.int .i64 j) false).run Tryz.prog w= .ok (.pointer (some ⟨qj,0,none⟩)) w) (n3:w.cell? ⟨qj,3,none⟩=some (.map mv)) (q0:∀ ty,(Builtin.len_ #[71] ty #[.map mv]).run Tryz.prog w= .ok (.int .i64 L) w) (hL:L=0) (hn:200≤ln)
 (hD:Calls Tryz.prog 104 #[.pointer (some ⟨g,0,none⟩), .int .i64 i] w fun e w'=>e= .returned (.bool false)∧w=w') (hDj:Calls Tryz.prog 104 #[.pointer (some ⟨g,0,none⟩), .int .i64 j] w fun e w'=>e= .returned (.bool false)∧w=w'):Calls Tryz.prog 107 #[.pointer (some ⟨g,0,none⟩), .int .i64 i, .int .i64 j] w fun e w'=>e= .returned (.int .i64 48)∧w=w':=by
 subst hL
 have qj:(j != 0)=true:=by simpa using h1
 clear h1
 have k0:=hD
 have k1:=hD
 have k2:=hDj
 clear hD hDj
 go_enter Tryz.func107,Tryz.ntmps107
 go_wp2_with (first
  | (go_at_call 104;refine k0.mono ?_;clear k0;rintro e u ⟨rfl,rfl⟩)
  | (go_at_call 104;refine k1.mono ?_;clear k1;rintro e u ⟨rfl,rfl⟩)
  | (go_at_call 104;refine k2.mono ?_;clear k2;rintro e u ⟨rfl,rfl⟩))
 go_returns
 exact⟨rfl,rfl⟩
set_option maxHeartbeats 4000000 in
theorem Zf5 {w:World} {g mb qi qj:Nat} {i j ln L:Int} {mv:Option Nat} (h1:¬j=0) (t0:w.cell? ⟨g,0,none⟩=some (.map (some mb))) (lo:(Instr.lookup 68 (.map (some mb)) (.int .i64 i) false).run Tryz.prog w= .ok (.pointer (some ⟨qi,0,none⟩)) w) (n1:w.cell? ⟨qi,1,none⟩=some (.int .i64 ln))
 (loj:(Instr.lookup 68 (.map (some mb)) (.int .i64 j) false).run Tryz.prog w= .ok (.pointer (some ⟨qj,0,none⟩)) w) (n3:w.cell? ⟨qj,3,none⟩=some (.map mv)) (q0:∀ ty,(Builtin.len_ #[71] ty #[.map mv]).run Tryz.prog w= .ok (.int .i64 L) w) (hL:L=0) (hn:ln < 200)
 (hD:Calls Tryz.prog 104 #[.pointer (some ⟨g,0,none⟩), .int .i64 i] w fun e w'=>e= .returned (.bool false)∧w=w') (hDj:Calls Tryz.prog 104 #[.pointer (some ⟨g,0,none⟩), .int .i64 j] w fun e w'=>e= .returned (.bool false)∧w=w'):Calls Tryz.prog 107 #[.pointer (some ⟨g,0,none⟩), .int .i64 i, .int .i64 j] w fun e w'=>e= .returned (.int .i64 0)∧w=w':=by
 subst hL
 have qj:(j != 0)=true:=by simpa using h1
 clear h1
 have k0:=hD
 have k1:=hD
 have k2:=hDj
 clear hD hDj
 go_enter Tryz.func107,Tryz.ntmps107
 go_wp2_with (first
  | (go_at_call 104;refine k0.mono ?_;clear k0;rintro e u ⟨rfl,rfl⟩)
  | (go_at_call 104;refine k1.mono ?_;clear k1;rintro e u ⟨rfl,rfl⟩)
  | (go_at_call 104;refine k2.mono ?_;clear k2;rintro e u ⟨rfl,rfl⟩))
 go_returns
 exact⟨rfl,rfl⟩
theorem Zgv {w:World} {g mb qi:Nat} {i ln:Int} (t0:w.cell? ⟨g,0,none⟩=some (.map (some mb))) (lo:(Instr.lookup 68 (.map (some mb)) (.int .i64 i) false).run Tryz.prog w= .ok (.pointer (some ⟨qi,0,none⟩)) w) (n1:w.cell? ⟨qi,1,none⟩=some (.int .i64 ln)) (hn:200≤ln):
 Calls Tryz.prog 107 #[.pointer (some ⟨g,0,none⟩), .int .i64 i, .int .i64 0] w fun e w'=>e= .returned (.int .i64 48)∧w=w':=by
 go_enter Tryz.func107,Tryz.ntmps107
 go_wp2
 go_returns
 exact⟨rfl,rfl⟩
theorem Zgu {w:World} {g mb qi:Nat} {i ln:Int} (t0:w.cell? ⟨g,0,none⟩=some (.map (some mb))) (lo:(Instr.lookup 68 (.map (some mb)) (.int .i64 i) false).run Tryz.prog w= .ok (.pointer (some ⟨qi,0,none⟩)) w) (n1:w.cell? ⟨qi,1,none⟩=some (.int .i64 ln)) (hn:ln < 200):
 Calls Tryz.prog 107 #[.pointer (some ⟨g,0,none⟩), .int .i64 i, .int .i64 0] w fun e w'=>e= .returned (.int .i64 0)∧w=w':=by
 go_enter Tryz.func107,Tryz.ntmps107
 go_wp2
 go_returns
 exact⟨rfl,rfl⟩
theorem Z7c {Z:Tz} {m n:Nat} {x:Int→Int} (h:Z.okD m n x) {i:Int} (hk:(Z.nd i).k≠0):(Z.nd i).k=1∨(Z.nd i).k=2:=by
 rcases h.kd i with e | e | e
 · exact absurd e hk
 · exact .inl e
 · exact .inr e
theorem Z8o {w:World} {U:Nat→Prop} {g B m n:Nat} {q:Int→Nat} {Z:Tz} {x:Int→Int} (h:Tx w U g q B Z) (hz:Z.okD m n x) (hm:m≤1000) {i j:Int} (hk:(Z.nd i).k≠0) (hj:j=0∨(Z.nd j).k≠0):
 Calls Tryz.prog 107 #[.pointer (some ⟨g,0,none⟩), .int .i64 i, .int .i64 j] w fun e w'=>e= .returned (.int .i64 (Z.reE3 i j))∧w=w':=by
 have hD:=Z1u h hz hm hk
 have h0:=h
 obtain⟨tg,mb,ob,nb,sv,H,hU⟩:=h
 have t0:=H.c0
 have lo:=H.look hk (Z13 hz hm hk)
 have n1:=H.n1 hk
 have hlx:=hz.lx i
 by_cases h1:j=0
 · subst h1
   unfold Tz.reE3
   rw [if_neg (fun e=>e.1 rfl),if_neg (fun e=>e.1 rfl),if_neg (fun e=>e.1 rfl)]
   by_cases hl:(Z.nd i).ln=200
   · rw [if_pos hl];exact Zgv t0 lo n1 (by omega)
   · rw [if_neg hl];exact Zgu t0 lo n1 (by omega)
 · have hkj:(Z.nd j).k≠0:=hj.resolve_left h1
   have hDj:=Z1u h0 hz hm hkj
   have loj:=H.look hkj (Z13 hz hm hkj)
   have qn:∀ ty,(Builtin.len_ #[71] ty #[.map (mo (Z.nd j).k (nb j))]).run Tryz.prog w= .ok (.int .i64 ((Z.nd j).nm.length:Int)) w:=fun ty=>by
    unfold mo
    rcases Z7c hz hkj with e | e
    · rw [if_neg (by rw [e];decide),hz.fi j e];exact Maps.len_nil uMt ty
    · rw [if_pos e];exact(H.nm j e).2.len (hz.so j) (fun e he=>by have:=(hz.nw j e he).2.1;omega) ty
   have n3:w.cell? ⟨q j,3,none⟩=some (.map (mo (Z.nd j).k (nb j))):=(H.nd j hkj).2.cell 3 _ rfl
   have hlen:(Z.nd j).nm= []↔((Z.nd j).nm.length:Int)=0:=by rw [← List.length_eq_zero_iff];omega
   unfold Tz.reE3
   rcases Z7c hz hk with ki | ki
   · rw [if_neg (fun e=>by rw [ki]at e;cases e.2.1)]
     rw [ki,show decide ((1:Int)=2)=false from rfl]at hD
     rcases Z7c hz hkj with kj | kj
     · rw [kj,show decide ((1:Int)=2)=false from rfl]at hDj
       rw [if_neg (fun e=>by rw [kj]at e;cases e.2.2)]
       by_cases hnj:(Z.nd j).nm= []
       · rw [if_neg (fun e=>e.2 hnj)]
         by_cases hl:(Z.nd i).ln=200
         · rw [if_pos hl];exact Zf9 h1 t0 lo n1 loj n3 qn (hlen.1 hnj) (by omega) hD hDj
         · rw [if_neg hl];exact Zf5 h1 t0 lo n1 loj n3 qn (hlen.1 hnj) (by omega) hD hDj
       · rw [if_pos ⟨h1,hnj⟩];exact Zf7 h1 t0 lo n1 loj n3 qn (by have:=List.length_pos_iff.2 hnj;omega) hD hDj
     · rw [kj,show decide ((2:Int)=2)=true from rfl]at hDj
       rw [if_pos ⟨h1,by rw [ki];decide,kj⟩]
       exact mt43 h1 t0 lo n1 loj n3 qn hD hDj
   · rw [ki,show decide ((2:Int)=2)=true from rfl]at hD
     rcases Z7c hz hkj with kj | kj
     · rw [kj,show decide ((1:Int)=2)=false from rfl]at hDj
       rw [if_pos ⟨h1,ki,by rw [kj];decide⟩]
       exact mt42 h1 t0 lo n1 loj n3 qn hD hDj
     · rw [kj,show decide ((2:Int)=2)=true from rfl]at hDj
       rw [if_neg (fun e=>e.2.2 kj),if_neg (fun e=>e.2.1 ki)]
       by_cases hnj:(Z.nd j).nm= []
       · rw [if_neg (fun e=>e.2 hnj)]
         by_cases hl:(Z.nd i).ln=200
         · rw [if_pos hl];exact Zfa h1 t0 lo n1 loj n3 qn (hlen.1 hnj) (by omega) hD hDj
         · rw [if_neg hl];exact Zf6 h1 t0 lo n1 loj n3 qn (hlen.1 hnj) (by omega) hD hDj
       · rw [if_pos ⟨h1,hnj⟩];exact Zf8 h1 t0 lo n1 loj n3 qn (by have:=List.length_pos_iff.2 hnj;omega) hD hDj
set_option maxRecDepth 100000
set_option maxHeartbeats 8000000 in
theorem rn0 {w:World} {g:Nat} {o:Oz} {s:Sv} {d f:Option Nat} {a b:List UInt8} {c k E:Int} (hne:E≠0) {U:Nat→Prop} {q:Int→Nat} {B:Nat} {Z Z':Tz} (h:Tx w U g q B Z)
 (hE:∀ w',Below w.heap.size w w'→Calls Tryz.prog 106 #[.pointer (some ⟨g,0,none⟩), .agg (opC o s).toArray] w' fun e u=>e= .returned (.tuple #[.agg (spC d a c).toArray, .agg (spC f b k).toArray, .int .i64 E])∧Below w'.heap.size w' u):
 Calls Tryz.prog 62 #[.pointer (some ⟨g,0,none⟩), .agg (opC o s).toArray] w fun e w'=>Ret e U g B Z Z' E w w':=by
 have qE:(E != 0)=true:=by simpa using hne
 have tk1:True:=trivial
 have tk2:True:=trivial
 go_enter Tryz.func62,Tryz.ntmps62
 go_wp2_with (first
  | (refine Z05 (by rfl) _ (by rfl) o s (by rfl) ?_;intro g1 w1 z1 z2 r1 b1
     have Bc:=b1
     have v1:=b1.size)
  | (refine Z02 (by rfl) (by rfl) ?_;intro g2 w2 z3 z4 r2 b2
     replace Bc:=Z00q Bc b2 (Nat.le_refl _)
     have v2:=b2.size
     try (replace r1:=r1.later b2)
     try (replace r2:=r2.later b2)
     try (replace r3:=r3.later b2)
     try (replace r4:=r4.later b2)
     try clear d2
     try clear d4
     try (have d2:=r3.cell 2 _ rfl)
     try (have d4:=r4.cell 2 _ rfl))
  | (refine Z0k 37 8 _ Z0r (by rfl) _ (by rfl) g1 (by rfl) _ r1 rfl ?_)
  | (go_at_call 106;refine(hE _ Bc).mono ?_;rintro e ws1 ⟨rfl,bs1⟩;clear hE
     replace Bc:=Z00q Bc bs1 (Nat.le_refl _)
     have vs1:=bs1.size
     try (replace r1:=r1.later bs1)
     try (replace r2:=r2.later bs1)
     try (replace r3:=r3.later bs1)
     try (replace r4:=r4.later bs1)
     try clear d2
     try clear d4
     try (have d2:=r3.cell 2 _ rfl)
     try (have d4:=r4.cell 2 _ rfl))
  | (refine Z08 (by rfl) (by rfl) ?_;clear tk1;intro g3 wa zg3 yg3 r3 bg3
     replace Bc:=Z00q Bc bg3 (Nat.le_refl _)
     have vg3:=bg3.size
     try (replace r1:=r1.later bg3)
     try (replace r2:=r2.later bg3)
     try (skip;replace zzz:=r3.later bg3)
     try (replace r4:=r4.later bg3)
     try clear d2
     try clear d4
     try (have d2:=r3.cell 2 _ rfl)
     try (have d4:=r4.cell 2 _ rfl))
  | (refine Z08 (by rfl) (by rfl) ?_;clear tk2;intro g4 wb zg4 yg4 r4 bg4
     replace Bc:=Z00q Bc bg4 (Nat.le_refl _)
     have vg4:=bg4.size
     try (replace r1:=r1.later bg4)
     try (replace r2:=r2.later bg4)
     try (replace r3:=r3.later bg4)
     try (skip;replace zzz:=r4.later bg4)
     try clear d2
     try clear d4
     try (have d2:=r3.cell 2 _ rfl)
     try (have d4:=r4.cell 2 _ rfl))
  | (refine Z09 (by rfl) _ _ (by rfl) g3 (by rfl) d a c (by rfl) _ r3 rfl ?_;intro w5 q5 s5
     replace r3:=q5
     have v5:=s5.size
     replace Bc:=((Stp.of_below Bc (fun _=>False)).next s5 (fun y e=> .inr (by omega))).below (Nat.le_refl _) (fun y e=>e.elim)
     try (replace r1:=r1.step s5 (fun e=>by omega))
     try (replace r2:=r2.step s5 (fun e=>by omega))
     try (replace r4:=r4.step s5 (fun e=>by omega))
     try clear d2
     try clear d4
     try (have d2:=r3.cell 2 _ rfl)
     try (have d4:=r4.cell 2 _ rfl))
  | (refine Z09 (by rfl) _ _ (by rfl) g4 (by rfl) f b k (by rfl) _ r4 rfl ?_;intro w6 q6 s6
     replace r4:=q6
     have v6:=s6.size
     replace Bc:=((Stp.of_below Bc (fun _=>False)).next s6 (fun y e=> .inr (by omega))).below (Nat.le_refl _) (fun y e=>e.elim)
     try (replace r1:=r1.step s6 (fun e=>by omega))
     try (replace r2:=r2.step s6 (fun e=>by omega))
     try (replace r3:=r3.step s6 (fun e=>by omega))
     try clear d2
     try clear d4
     try (have d2:=r3.cell 2 _ rfl)
     try (have d4:=r4.cell 2 _ rfl))
  | (refine Z03 (by rfl) _ _ (by rfl) g2 (by rfl) anZ 0 Z0c (by rfl) _ r2 rfl ?_;intro w9 r9 s9))
 exact bodyPost_ret (Z0d Z06 Tryz.results62 rfl rfl r9 rfl) rfl (Z0q hne (TxG.same h Bc (by omega) s9))
set_option maxHeartbeats 8000000 in
theorem rn1 {w:World} {g:Nat} {o:Oz} {s:Sv} {d f:Option Nat} {a b:List UInt8} {c:Int} {U:Nat→Prop} {q:Int→Nat} {B:Nat} {Z:Tz} (h:Tx w U g q B Z)
 (hE:∀ w',Below w.heap.size w w'→Calls Tryz.prog 106 #[.pointer (some ⟨g,0,none⟩), .agg (opC o s).toArray] w' fun e u=>e= .returned (.tuple #[.agg (spC d a c).toArray, .agg (spC f b c).toArray, .int .i64 0])∧Below w'.heap.size w' u):
 Calls Tryz.prog 62 #[.pointer (some ⟨g,0,none⟩), .agg (opC o s).toArray] w fun e w'=>Ret e U g B Z Z 0 w w':=by
 have tk1:True:=trivial
 have tk2:True:=trivial
 go_enter Tryz.func62,Tryz.ntmps62
 go_wp2_with (first
  | (refine Z05 (by rfl) _ (by rfl) o s (by rfl) ?_;intro g1 w1 z1 z2 r1 b1
     have Bc:=b1
     have v1:=b1.size)
  | (refine Z02 (by rfl) (by rfl) ?_;intro g2 w2 z3 z4 r2 b2
     replace Bc:=Z00q Bc b2 (Nat.le_refl _)
     have v2:=b2.size
     try (replace r1:=r1.later b2)
     try (replace r2:=r2.later b2)
     try (replace r3:=r3.later b2)
     try (replace r4:=r4.later b2)
     try clear d2
     try clear d4
     try (have d2:=r3.cell 2 _ rfl)
     try (have d4:=r4.cell 2 _ rfl))
  | (refine Z0k 37 8 _ Z0r (by rfl) _ (by rfl) g1 (by rfl) _ r1 rfl ?_)
  | (go_at_call 106;refine(hE _ Bc).mono ?_;rintro e ws1 ⟨rfl,bs1⟩;clear hE
     replace Bc:=Z00q Bc bs1 (Nat.le_refl _)
     have vs1:=bs1.size
     try (replace r1:=r1.later bs1)
     try (replace r2:=r2.later bs1)
     try (replace r3:=r3.later bs1)
     try (replace r4:=r4.later bs1)
     try clear d2
     try clear d4
     try (have d2:=r3.cell 2 _ rfl)
     try (have d4:=r4.cell 2 _ rfl))
  | (refine Z08 (by rfl) (by rfl) ?_;clear tk1;intro g3 wa zg3 yg3 r3 bg3
     replace Bc:=Z00q Bc bg3 (Nat.le_refl _)
     have vg3:=bg3.size
     try (replace r1:=r1.later bg3)
     try (replace r2:=r2.later bg3)
     try (skip;replace zzz:=r3.later bg3)
     try (replace r4:=r4.later bg3)
     try clear d2
     try clear d4
     try (have d2:=r3.cell 2 _ rfl)
     try (have d4:=r4.cell 2 _ rfl))
  | (refine Z08 (by rfl) (by rfl) ?_;clear tk2;intro g4 wb zg4 yg4 r4 bg4
     replace Bc:=Z00q Bc bg4 (Nat.le_refl _)
     have vg4:=bg4.size
     try (replace r1:=r1.later bg4)
     try (replace r2:=r2.later bg4)
     try (replace r3:=r3.later bg4)
     try (skip;replace zzz:=r4.later bg4)
     try clear d2
     try clear d4
     try (have d2:=r3.cell 2 _ rfl)
     try (have d4:=r4.cell 2 _ rfl))
  | (refine Z09 (by rfl) _ _ (by rfl) g3 (by rfl) d a c (by rfl) _ r3 rfl ?_;intro w5 q5 s5
     replace r3:=q5
     have v5:=s5.size
     replace Bc:=((Stp.of_below Bc (fun _=>False)).next s5 (fun y e=> .inr (by omega))).below (Nat.le_refl _) (fun y e=>e.elim)
     try (replace r1:=r1.step s5 (fun e=>by omega))
     try (replace r2:=r2.step s5 (fun e=>by omega))
     try (replace r4:=r4.step s5 (fun e=>by omega))
     try clear d2
     try clear d4
     try (have d2:=r3.cell 2 _ rfl)
     try (have d4:=r4.cell 2 _ rfl))
  | (refine Z09 (by rfl) _ _ (by rfl) g4 (by rfl) f b c (by rfl) _ r4 rfl ?_;intro w6 q6 s6
     replace r4:=q6
     have v6:=s6.size
     replace Bc:=((Stp.of_below Bc (fun _=>False)).next s6 (fun y e=> .inr (by omega))).below (Nat.le_refl _) (fun y e=>e.elim)
     try (replace r1:=r1.step s6 (fun e=>by omega))
     try (replace r2:=r2.step s6 (fun e=>by omega))
     try (replace r3:=r3.step s6 (fun e=>by omega))
     try clear d2
     try clear d4
     try (have d2:=r3.cell 2 _ rfl)
     try (have d4:=r4.cell 2 _ rfl))
  | (refine Z03 (by rfl) _ _ (by rfl) g2 (by rfl) anZ 0 Z0c (by rfl) _ r2 rfl ?_;intro w9 r9 s9))
 exact bodyPost_ret (Z0d Z06 Tryz.results62 rfl rfl r9 rfl) rfl (Z16 Z0c ((TxG.same h Bc (by omega) s9).more (Nat.le_succ B)))
set_option maxHeartbeats 8000000 in
theorem rn2 {w:World} {g:Nat} {o:Oz} {s:Sv} {d f:Option Nat} {a b:List UInt8} {c k E:Int} (hne:E≠0) (hck:¬c=k) {U:Nat→Prop} {q:Int→Nat} {B:Nat} {Z Z':Tz} (h:Tx w U g q B Z)
 (hE:∀ w',Below w.heap.size w w'→Calls Tryz.prog 106 #[.pointer (some ⟨g,0,none⟩), .agg (opC o s).toArray] w' fun e u=>e= .returned (.tuple #[.agg (spC d a c).toArray, .agg (spC f b k).toArray, .int .i64 0])∧Below w'.heap.size w' u)
 (hM:∀ w',Below w.heap.size w w'→Calls Tryz.prog 107 #[.pointer (some ⟨g,0,none⟩), .int .i64 c, .int .i64 k] w' fun e u=>e= .returned (.int .i64 E)∧w'=u):
 Calls Tryz.prog 62 #[.pointer (some ⟨g,0,none⟩), .agg (opC o s).toArray] w fun e w'=>Ret e U g B Z Z' E w w':=by
 have qE:(E != 0)=true:=by simpa using hne
 have qk:(c==k)=false:=by simpa using hck
 have tk1:True:=trivial
 have tk2:True:=trivial
 go_enter Tryz.func62,Tryz.ntmps62
 go_wp2_with (first
  | (refine Z05 (by rfl) _ (by rfl) o s (by rfl) ?_;intro g1 w1 z1 z2 r1 b1
     have Bc:=b1
     have v1:=b1.size)
  | (refine Z02 (by rfl) (by rfl) ?_;intro g2 w2 z3 z4 r2 b2
     replace Bc:=Z00q Bc b2 (Nat.le_refl _)
     have v2:=b2.size
     try (replace r1:=r1.later b2)
     try (replace r2:=r2.later b2)
     try (replace r3:=r3.later b2)
     try (replace r4:=r4.later b2)
     try clear d2
     try clear d4
     try (have d2:=r3.cell 2 _ rfl)
     try (have d4:=r4.cell 2 _ rfl))
  | (refine Z0k 37 8 _ Z0r (by rfl) _ (by rfl) g1 (by rfl) _ r1 rfl ?_)
  | (go_at_call 106;refine(hE _ Bc).mono ?_;rintro e ws1 ⟨rfl,bs1⟩;clear hE
     replace Bc:=Z00q Bc bs1 (Nat.le_refl _)
     have vs1:=bs1.size
     try (replace r1:=r1.later bs1)
     try (replace r2:=r2.later bs1)
     try (replace r3:=r3.later bs1)
     try (replace r4:=r4.later bs1)
     try clear d2
     try clear d4
     try (have d2:=r3.cell 2 _ rfl)
     try (have d4:=r4.cell 2 _ rfl))
  | (refine Z08 (by rfl) (by rfl) ?_;clear tk1;intro g3 wa zg3 yg3 r3 bg3
     replace Bc:=Z00q Bc bg3 (Nat.le_refl _)
     have vg3:=bg3.size
     try (replace r1:=r1.later bg3)
     try (replace r2:=r2.later bg3)
     try (skip;replace zzz:=r3.later bg3)
     try (replace r4:=r4.later bg3)
     try clear d2
     try clear d4
     try (have d2:=r3.cell 2 _ rfl)
     try (have d4:=r4.cell 2 _ rfl))
  | (refine Z08 (by rfl) (by rfl) ?_;clear tk2;intro g4 wb zg4 yg4 r4 bg4
     replace Bc:=Z00q Bc bg4 (Nat.le_refl _)
     have vg4:=bg4.size
     try (replace r1:=r1.later bg4)
     try (replace r2:=r2.later bg4)
     try (replace r3:=r3.later bg4)
     try (skip;replace zzz:=r4.later bg4)
     try clear d2
     try clear d4
     try (have d2:=r3.cell 2 _ rfl)
     try (have d4:=r4.cell 2 _ rfl))
  | (refine Z09 (by rfl) _ _ (by rfl) g3 (by rfl) d a c (by rfl) _ r3 rfl ?_;intro w5 q5 s5
     replace r3:=q5
     have v5:=s5.size
     replace Bc:=((Stp.of_below Bc (fun _=>False)).next s5 (fun y e=> .inr (by omega))).below (Nat.le_refl _) (fun y e=>e.elim)
     try (replace r1:=r1.step s5 (fun e=>by omega))
     try (replace r2:=r2.step s5 (fun e=>by omega))
     try (replace r4:=r4.step s5 (fun e=>by omega))
     try clear d2
     try clear d4
     try (have d2:=r3.cell 2 _ rfl)
     try (have d4:=r4.cell 2 _ rfl))
  | (refine Z09 (by rfl) _ _ (by rfl) g4 (by rfl) f b k (by rfl) _ r4 rfl ?_;intro w6 q6 s6
     replace r4:=q6
     have v6:=s6.size
     replace Bc:=((Stp.of_below Bc (fun _=>False)).next s6 (fun y e=> .inr (by omega))).below (Nat.le_refl _) (fun y e=>e.elim)
     try (replace r1:=r1.step s6 (fun e=>by omega))
     try (replace r2:=r2.step s6 (fun e=>by omega))
     try (replace r3:=r3.step s6 (fun e=>by omega))
     try clear d2
     try clear d4
     try (have d2:=r3.cell 2 _ rfl)
     try (have d4:=r4.cell 2 _ rfl))
  | (go_at_call 107;refine(hM _ Bc).mono ?_;rintro e u ⟨rfl,rfl⟩;clear hM)
  | (refine Z03 (by rfl) _ _ (by rfl) g2 (by rfl) anZ 0 Z0c (by rfl) _ r2 rfl ?_;intro w9 r9 s9))
 exact bodyPost_ret (Z0d Z06 Tryz.results62 rfl rfl r9 rfl) rfl (Z0q hne (TxG.same h Bc (by omega) s9))
set_option maxHeartbeats 8000000 in
theorem rn3 {w:World} {g:Nat} {o:Oz} {s:Sv} {a b:List UInt8} {D1 D2 i:Int} {U:Nat→Prop} {q:Int→Nat} {B m n:Nat} {Z:Tz} {x:Int→Int} (h:Tx w U g q B Z) (hz:Z.okD m n x) (hx:∀ j,2≤j→x j=0) (hm:m≤1000) (hB:B≤1000) (ha10:a.length≤10) (hb10:b.length≤10) (hi2:2≤i) (M:Z.mvS m n x D1 a i D2 b 0)
 (hE:∀ w',Below w.heap.size w w'→Calls Tryz.prog 106 #[.pointer (some ⟨g,0,none⟩), .agg (opC o s).toArray] w' fun e u=>e= .returned (.tuple #[.agg (spC (some (q D1)) a i).toArray, .agg (spC (some (q D2)) b 0).toArray, .int .i64 0])∧Below w'.heap.size w' u)
 (hM:∀ w',Below w.heap.size w w'→Calls Tryz.prog 107 #[.pointer (some ⟨g,0,none⟩), .int .i64 i, .int .i64 0] w' fun e u=>e= .returned (.int .i64 0)∧w'=u):
 Calls Tryz.prog 62 #[.pointer (some ⟨g,0,none⟩), .agg (opC o s).toArray] w fun e w'=>Ret e U g B Z (Z.mv D1 a i D2 b 0) 0 w w':=by
 have hU:=h.low
 have hT:∀ w',Below w.heap.size w w'→Tx w' U g q B (Z.mv1 D2 b 0):=fun w' b=>by unfold Tz.mv1;rw [if_pos rfl];exact h.later b
 have qk:(i==0)=false:=by simp;omega
 have tk1:True:=trivial
 have tk2:True:=trivial
 go_enter Tryz.func62,Tryz.ntmps62
 go_wp2_with (first
  | (refine Z05 (by rfl) _ (by rfl) o s (by rfl) ?_;intro g1 w1 z1 z2 r1 b1
     have Bc:=b1
     have v1:=b1.size)
  | (refine Z02 (by rfl) (by rfl) ?_;intro g2 w2 z3 z4 r2 b2
     replace Bc:=Z00q Bc b2 (Nat.le_refl _)
     have v2:=b2.size
     try (replace r1:=r1.later b2)
     try (replace r2:=r2.later b2)
     try (replace r3:=r3.later b2)
     try (replace r4:=r4.later b2)
     try clear d2
     try clear d4
     try (have d2:=r3.cell 2 _ rfl)
     try (have d4:=r4.cell 2 _ rfl))
  | (refine Z0k 37 8 _ Z0r (by rfl) _ (by rfl) g1 (by rfl) _ r1 rfl ?_)
  | (go_at_call 106;refine(hE _ Bc).mono ?_;rintro e ws1 ⟨rfl,bs1⟩;clear hE
     replace Bc:=Z00q Bc bs1 (Nat.le_refl _)
     have vs1:=bs1.size
     try (replace r1:=r1.later bs1)
     try (replace r2:=r2.later bs1)
     try (replace r3:=r3.later bs1)
     try (replace r4:=r4.later bs1)
     try clear d2
     try clear d4
     try (have d2:=r3.cell 2 _ rfl)
     try (have d4:=r4.cell 2 _ rfl))
  | (refine Z08 (by rfl) (by rfl) ?_;clear tk1;intro g3 wa zg3 yg3 r3 bg3
     replace Bc:=Z00q Bc bg3 (Nat.le_refl _)
     have vg3:=bg3.size
     try (replace r1:=r1.later bg3)
     try (replace r2:=r2.later bg3)
     try (skip;replace zzz:=r3.later bg3)
     try (replace r4:=r4.later bg3)
     try clear d2
     try clear d4
     try (have d2:=r3.cell 2 _ rfl)
     try (have d4:=r4.cell 2 _ rfl))
  | (refine Z08 (by rfl) (by rfl) ?_;clear tk2;intro g4 wb zg4 yg4 r4 bg4
     replace Bc:=Z00q Bc bg4 (Nat.le_refl _)
     have vg4:=bg4.size
     try (replace r1:=r1.later bg4)
     try (replace r2:=r2.later bg4)
     try (replace r3:=r3.later bg4)
     try (skip;replace zzz:=r4.later bg4)
     try clear d2
     try clear d4
     try (have d2:=r3.cell 2 _ rfl)
     try (have d4:=r4.cell 2 _ rfl))
  | (refine Z09 (by rfl) _ _ (by rfl) g3 (by rfl) (some (q D1)) a i (by rfl) _ r3 rfl ?_;intro w5 q5 s5
     replace r3:=q5
     have v5:=s5.size
     replace Bc:=((Stp.of_below Bc (fun _=>False)).next s5 (fun y e=> .inr (by omega))).below (Nat.le_refl _) (fun y e=>e.elim)
     try (replace r1:=r1.step s5 (fun e=>by omega))
     try (replace r2:=r2.step s5 (fun e=>by omega))
     try (replace r4:=r4.step s5 (fun e=>by omega))
     try clear d2
     try clear d4
     try (have d2:=r3.cell 2 _ rfl)
     try (have d4:=r4.cell 2 _ rfl))
  | (refine Z09 (by rfl) _ _ (by rfl) g4 (by rfl) (some (q D2)) b 0 (by rfl) _ r4 rfl ?_;intro w6 q6 s6
     replace r4:=q6
     have v6:=s6.size
     replace Bc:=((Stp.of_below Bc (fun _=>False)).next s6 (fun y e=> .inr (by omega))).below (Nat.le_refl _) (fun y e=>e.elim)
     try (replace r1:=r1.step s6 (fun e=>by omega))
     try (replace r2:=r2.step s6 (fun e=>by omega))
     try (replace r3:=r3.step s6 (fun e=>by omega))
     try clear d2
     try clear d4
     try (have d2:=r3.cell 2 _ rfl)
     try (have d4:=r4.cell 2 _ rfl))
  | (go_at_call 107;refine(hM _ Bc).mono ?_;rintro e u ⟨rfl,rfl⟩;clear hM)
  | (refine Z2f (by rfl) _ (by rfl) g4 (by rfl) (some (q D2)) b 0 r4 ?_)
  | (refine Z2f (by rfl) _ (by rfl) g3 (by rfl) (some (q D1)) a i r3 ?_)
  | (go_at_call 97;refine(Z1b (hT _ Bc) M.a hm hB M.ae M.ai b hb10 0).mono ?_;rintro e wN ⟨rfl,U1,t1,s1,e1⟩
     have vN:=s1.size
     have nU:∀ y,w.heap.size≤y→True→¬U y:=fun y h1 _ e=>by have:=hU y e;omega
     replace r2:=r2.step s1 (nU g2 (by omega) trivial)
     replace r3:=r3.step s1 (nU g3 (by omega) trivial)
     have nV:¬U1 g2:=fun e=>by rcases e1 g2 e with c | c;exact nU g2 (by omega) trivial c;have:=r2.lt;omega)
  | (go_at_call 105;refine(Z3b t1 M.b hm hx M.bd a M.bs hi2 ha10).mono ?_;rintro e wO ⟨rfl,U2,t2,s2,e2⟩
     replace r2:=r2.step s2 nV
     have G:=TxG.join s1 e1 t2 s2 e2)
  | (refine Z03 (by rfl) _ _ (by rfl) g2 (by rfl) anZ 0 Z0c (by rfl) _ r2 rfl ?_;intro w9 r9 s9))
 exact bodyPost_ret (Z0d Z06 Tryz.results62 rfl rfl r9 rfl) rfl (Z16 Z0c (TxG.fin hU Bc G (by omega) (by omega) s9))
set_option maxHeartbeats 8000000 in
theorem rn4 {w:World} {g:Nat} {o:Oz} {s:Sv} {a b:List UInt8} {D1 D2 i j:Int} {U:Nat→Prop} {q:Int→Nat} {B m n:Nat} {Z:Tz} {x:Int→Int} (h:Tx w U g q B Z) (hz:Z.okD m n x) (hx:∀ j,2≤j→x j=0) (hm:m≤1000) (hB:B≤1000) (ha10:a.length≤10) (hb10:b.length≤10) (hi2:2≤i) (hij:¬i=j) (hj2:2≤j) (he:(Z.nd D2).k=2) (hlk:lk (Z.nd D2).nm b=j) (M:Z.mvS m n x D1 a i D2 b j)
 (hE:∀ w',Below w.heap.size w w'→Calls Tryz.prog 106 #[.pointer (some ⟨g,0,none⟩), .agg (opC o s).toArray] w' fun e u=>e= .returned (.tuple #[.agg (spC (some (q D1)) a i).toArray, .agg (spC (some (q D2)) b j).toArray, .int .i64 0])∧Below w'.heap.size w' u)
 (hM:∀ w',Below w.heap.size w w'→Calls Tryz.prog 107 #[.pointer (some ⟨g,0,none⟩), .int .i64 i, .int .i64 j] w' fun e u=>e= .returned (.int .i64 0)∧w'=u):
 Calls Tryz.prog 62 #[.pointer (some ⟨g,0,none⟩), .agg (opC o s).toArray] w fun e w'=>Ret e U g B Z (Z.mv D1 a i D2 b j) 0 w w':=by
 have hU:=h.low
 have hj0:¬j=0:=by omega
 have hmv:Z.un D2 b j=Z.mv1 D2 b j:=by unfold Tz.mv1;rw [if_neg hj0]
 have qk:(i==j)=false:=by simpa using hij
 have qj:(j != 0)=true:=by simpa using hj0
 have tk3:True:=trivial
 have tk1:True:=trivial
 have tk2:True:=trivial
 go_enter Tryz.func62,Tryz.ntmps62
 go_wp2_with (first
  | (refine Z05 (by rfl) _ (by rfl) o s (by rfl) ?_;intro g1 w1 z1 z2 r1 b1
     have Bc:=b1
     have v1:=b1.size)
  | (refine Z02 (by rfl) (by rfl) ?_;intro g2 w2 z3 z4 r2 b2
     replace Bc:=Z00q Bc b2 (Nat.le_refl _)
     have v2:=b2.size
     try (replace r1:=r1.later b2)
     try (replace r2:=r2.later b2)
     try (replace r3:=r3.later b2)
     try (replace r4:=r4.later b2)
     try clear d2
     try clear d4
     try (have d2:=r3.cell 2 _ rfl)
     try (have d4:=r4.cell 2 _ rfl))
  | (refine Z0k 37 8 _ Z0r (by rfl) _ (by rfl) g1 (by rfl) _ r1 rfl ?_)
  | (go_at_call 106;refine(hE _ Bc).mono ?_;rintro e ws1 ⟨rfl,bs1⟩;clear hE
     replace Bc:=Z00q Bc bs1 (Nat.le_refl _)
     have vs1:=bs1.size
     try (replace r1:=r1.later bs1)
     try (replace r2:=r2.later bs1)
     try (replace r3:=r3.later bs1)
     try (replace r4:=r4.later bs1)
     try clear d2
     try clear d4
     try (have d2:=r3.cell 2 _ rfl)
     try (have d4:=r4.cell 2 _ rfl))
  | (refine Z08 (by rfl) (by rfl) ?_;clear tk1;intro g3 wa zg3 yg3 r3 bg3
     replace Bc:=Z00q Bc bg3 (Nat.le_refl _)
     have vg3:=bg3.size
     try (replace r1:=r1.later bg3)
     try (replace r2:=r2.later bg3)
     try (skip;replace zzz:=r3.later bg3)
     try (replace r4:=r4.later bg3)
     try clear d2
     try clear d4
     try (have d2:=r3.cell 2 _ rfl)
     try (have d4:=r4.cell 2 _ rfl))
  | (refine Z08 (by rfl) (by rfl) ?_;clear tk2;intro g4 wb zg4 yg4 r4 bg4
     replace Bc:=Z00q Bc bg4 (Nat.le_refl _)
     have vg4:=bg4.size
     try (replace r1:=r1.later bg4)
     try (replace r2:=r2.later bg4)
     try (replace r3:=r3.later bg4)
     try (skip;replace zzz:=r4.later bg4)
     try clear d2
     try clear d4
     try (have d2:=r3.cell 2 _ rfl)
     try (have d4:=r4.cell 2 _ rfl))
  | (refine Z09 (by rfl) _ _ (by rfl) g3 (by rfl) (some (q D1)) a i (by rfl) _ r3 rfl ?_;intro w5 q5 s5
     replace r3:=q5
     have v5:=s5.size
     replace Bc:=((Stp.of_below Bc (fun _=>False)).next s5 (fun y e=> .inr (by omega))).below (Nat.le_refl _) (fun y e=>e.elim)
     try (replace r1:=r1.step s5 (fun e=>by omega))
     try (replace r2:=r2.step s5 (fun e=>by omega))
     try (replace r4:=r4.step s5 (fun e=>by omega))
     try clear d2
     try clear d4
     try (have d2:=r3.cell 2 _ rfl)
     try (have d4:=r4.cell 2 _ rfl))
  | (refine Z09 (by rfl) _ _ (by rfl) g4 (by rfl) (some (q D2)) b j (by rfl) _ r4 rfl ?_;intro w6 q6 s6
     replace r4:=q6
     have v6:=s6.size
     replace Bc:=((Stp.of_below Bc (fun _=>False)).next s6 (fun y e=> .inr (by omega))).below (Nat.le_refl _) (fun y e=>e.elim)
     try (replace r1:=r1.step s6 (fun e=>by omega))
     try (replace r2:=r2.step s6 (fun e=>by omega))
     try (replace r3:=r3.step s6 (fun e=>by omega))
     try clear d2
     try clear d4
     try (have d2:=r3.cell 2 _ rfl)
     try (have d4:=r4.cell 2 _ rfl))
  | (go_at_call 107;refine(hM _ Bc).mono ?_;rintro e u ⟨rfl,rfl⟩;clear hM)
  | (refine Z2f (by rfl) _ (by rfl) g4 (by rfl) (some (q D2)) b j r4 ?_)
  | (refine Z2f (by rfl) _ (by rfl) g3 (by rfl) (some (q D1)) a i r3 ?_)
  | (go_at_call 105;clear tk3;refine(Z3b (h.later Bc) hz hm hx he b hlk hj2 hb10).mono ?_;rintro e wM ⟨rfl,G0⟩
     rw [hmv]at G0
     obtain⟨U0,t0,s0,e0⟩:=G0
     have vM:=s0.size
     have nU:∀ y,w.heap.size≤y→¬U y:=fun y h1 e=>by have:=hU y e;omega
     have l2:=r2.lt
     have l3:=r3.lt
     have l4:=r4.lt
     have nV2:¬U0 g2:=fun e=>by rcases e0 g2 e with c | c;exact nU g2 (by omega) c;omega
     have nV3:¬U0 g3:=fun e=>by rcases e0 g3 e with c | c;exact nU g3 (by omega) c;omega
     replace r2:=r2.step s0 (nU g2 (by omega))
     replace r3:=r3.step s0 (nU g3 (by omega))
     replace r4:=r4.step s0 (nU g4 (by omega))
     clear d2 d4
     have d2:=r3.cell 2 _ rfl
     have d4:=r4.cell 2 _ rfl)
  | (go_at_call 97;refine(Z1b t0 M.a hm hB M.ae M.ai b hb10 j).mono ?_;rintro e wN ⟨rfl,U1,t1,s1,e1⟩
     obtain⟨U1',t1',s1',e1'⟩:=TxG.join s0 e0 t1 s1 e1
     replace r2:=r2.step s1 nV2
     replace r3:=r3.step s1 nV3
     have nW:¬U1' g2:=fun e=>by rcases e1' g2 e with c | c;exact nU g2 (by omega) c;omega)
  | (go_at_call 105;refine(Z3b t1' M.b hm hx M.bd a M.bs hi2 ha10).mono ?_;rintro e wO ⟨rfl,U2,t2,s2,e2⟩
     replace r2:=r2.step s2 nW
     have G:=TxG.join s1' e1' t2 s2 e2)
  | (refine Z03 (by rfl) _ _ (by rfl) g2 (by rfl) anZ 0 Z0c (by rfl) _ r2 rfl ?_;intro w9 r9 s9))
 exact bodyPost_ret (Z0d Z06 Tryz.results62 rfl rfl r9 rfl) rfl (Z16 Z0c (TxG.fin hU Bc G (by omega) (by omega) s9))
theorem Zg6 {Z:Tz} {o:Oz} (hE:Z.reE2 o=0):Z.paE o.p 51=0∧Z.paE o.q 51=0∧Z.paI o.p≠0:=by
 unfold Tz.reE2 at hE
 split at hE
 · split at hE
   · rename_i h2
     split at hE
     · cases hE
     · rename_i h3
       split at hE
       · cases hE
       · exact⟨h2,hE,h3⟩
   · rename_i h2;exact absurd hE h2
 · rename_i h1;exact absurd hE h1
theorem Z4y {w:World} {U:Nat→Prop} {g B n:Nat} {q:Int→Nat} {Z:Tz} (h:Tx w U g q B Z) (hz:Z.ok n) (hn:n≤900) (hB:B≤900) (o:Oz) (ho:o.wfo) (s:Sv):
 Calls Tryz.prog 62 #[.pointer (some ⟨g,0,none⟩), .agg (opC o s).toArray] w fun e w'=>Ret e U g B Z (Z.rnS o) (Z.rnE o) w w':=by
 have hm:n+2≤1000:=by omega
 have hE:=fun w' (b:Below w.heap.size w w')=>Zc9 (h.later b) hz hm o ho s
 by_cases h1:Z.reE2 o=0
 · have e1:Z.rnE o=if Z.paI o.p=Z.paI o.q then 0 else Z.reE3 (Z.paI o.p) (Z.paI o.q):=by unfold Tz.rnE;rw [if_pos h1]
   obtain⟨k1,k2,k3⟩:=Zg6 h1
   obtain⟨p1,p2,p3⟩:=Z1f hz (by decide) k1
   obtain⟨r1,r2,r3⟩:=Z1f hz (by decide) k2
   rw [Z92 h1,Z93 h1,h1]at hE
   by_cases h2:Z.paI o.p=Z.paI o.q
   · rw [if_pos h2]at e1
     have e2:Z.rnS o=Z:=by unfold Tz.rnS;rw [if_pos h2]
     rw [e1,e2]
     rw [h2]at hE
     exact rn1 h hE
   · rw [if_neg h2]at e1
     rcases p3 with p3 | p3
     · exact absurd p3 k3
     have hM:=fun w' (b:Below w.heap.size w w')=>Z8o (h.later b) hz hm p3.2 (r3.imp id (fun e=>e.2))
     by_cases h3:Z.reE3 (Z.paI o.p) (Z.paI o.q)=0
     · have e0:Z.rnE o=0:=by rw [e1,h3]
       have e2:Z.rnS o=Z.mv (Z.paD o.p) (lsS o.p) (Z.paI o.p) (Z.paD o.q) (lsS o.q) (Z.paI o.q):=by unfold Tz.rnS;rw [if_neg h2]
       have M:=Zcg hz Z2l (Za6 hz e0 h2)
       rw [e0,e2]
       rw [h3]at hM
       have a10:=(Z3i p2).2.2
       have b10:=(Z3i r2).2.2
       rcases r3 with r3 | r3
       · rw [r3]at hE hM M ⊢
         exact rn3 h hz Z2l hm (by omega) a10 b10 p3.1 M hE hM
       · exact rn4 h hz Z2l hm (by omega) a10 b10 p3.1 h2 r3.1 r1 rfl M hE hM
     · rw [e1];exact rn2 h3 h2 h hE hM
 · have e1:Z.rnE o=Z.reE2 o:=by unfold Tz.rnE;rw [if_neg h1]
   rw [Z49 h1,Z4a h1]at hE
   rw [e1]
   exact rn0 h1 h hE
set_option maxRecDepth 100000
theorem Zg0 {f:Int} (hw:wfi f) (h:bits .and .i64 f (-32)=0):0≤f∧f≤31:=by
 have hr:=Z28 hw
 have h':IntKind.i64.wrap (((BitVec.ofInt 64 f&&& BitVec.ofInt 64 (-32)).toNat:Nat):Int)=0:=h
 rw [IntKind.wrap_i64]at h'
 have hlt:=(BitVec.ofInt 64 f&&& BitVec.ofInt 64 (-32)).isLt
 have ht:(BitVec.ofInt 64 f&&& BitVec.ofInt 64 (-32)).toNat=0:=by omega
 have hz:BitVec.ofInt 64 f&&& BitVec.ofInt 64 (-32)=0#64:=BitVec.eq_of_toNat_eq (by rw [ht];rfl)
 have hc:∀ i,i < 64→5≤i→(BitVec.ofInt 64 (-32)).getLsbD i=true:=by decide+kernel
 have hb:(BitVec.ofInt 64 f).toNat < 2 ^ 5:=by
  refine Nat.lt_pow_two_of_testBit _ (fun i hi=>?_)
  by_cases h64:i < 64
  · have h1:(BitVec.ofInt 64 f&&& BitVec.ofInt 64 (-32)).getLsbD i=false:=by rw [hz];simp
    rw [BitVec.getLsbD_and,hc i h64 hi,Bool.and_true]at h1
    exact h1
  · exact Nat.testBit_lt_two_pow (Nat.lt_of_lt_of_le (BitVec.ofInt 64 f).isLt (Nat.pow_le_pow_right (by omega) (by omega)))
 rw [BitVec.toNat_ofInt]at hb
 omega
theorem Zeq:∀ k,k < 32→bits .and .i64 (k:Nat) (-32)=0∧bits .and .i64 (k:Nat) 3=(k:Int) % 4∧bits .and .i64 (k:Nat) 8=(if (k:Int) / 8 % 2=1 then 8 else 0)∧bits .and .i64 (k:Nat) 4=(if (k:Int) / 4 % 2=1 then 4 else 0)∧bits .and .i64 (k:Nat) 16=(if (k:Int) / 16 % 2=1 then 16 else 0)∧bits .and .i64 (k:Nat) 2=(if (k:Int) / 2 % 2=1 then 2 else 0):=by decide+kernel
structure Fbits (f:Int):Prop where
 a:bits .and .i64 f (-32)=0
 b3:bits .and .i64 f 3=f % 4
 b8:bits .and .i64 f 8=if f / 8 % 2=1 then 8 else 0
 b4:bits .and .i64 f 4=if f / 4 % 2=1 then 4 else 0
 b16:bits .and .i64 f 16=if f / 16 % 2=1 then 16 else 0
 b2:bits .and .i64 f 2=if f / 2 % 2=1 then 2 else 0
theorem Z9u {f:Int} (h:0≤f∧f≤31):Fbits f:=by
 obtain⟨k,rfl⟩:∃ k:Nat,f=(k:Int):=⟨f.toNat,by omega⟩
 obtain⟨h1,h2,h3,h4,h5,h6⟩:=Zeq k (by omega)
 exact⟨h1,h2,h3,h4,h5,h6⟩
def flB (a b3 b8 b4 b16 b2:Int):Bool:=decide (a=0)&&(decide (b3≠0)&&((decide (b8=0)||decide (b4≠0))&&(decide (b16=0)||decide (b2≠0))))
theorem Zf0 {f:Int} (hw:wfi f):flB (bits .and .i64 f (-32)) (bits .and .i64 f 3) (bits .and .i64 f 8) (bits .and .i64 f 4) (bits .and .i64 f 16) (bits .and .i64 f 2)=flOk f:=by
 by_cases h:0≤f∧f≤31
 · have F:=Z9u h
   rw [F.a,F.b3,F.b8,F.b4,F.b16,F.b2]
   unfold flB flOk
   rw [Bool.eq_iff_iff]
   simp only [Bool.and_eq_true,Bool.or_eq_true,decide_eq_true_eq,Bool.not_eq_true',Bool.or_eq_false_iff,Bool.and_eq_false_iff,decide_eq_false_iff_not]
   constructor
   · rintro ⟨_,h1,h2,h3⟩
     refine⟨⟨⟨⟨by omega,by omega⟩,h1⟩,?_⟩,?_⟩
     · by_cases c:f / 8 % 2=1
       · rw [if_pos c]at h2
         rcases h2 with h2 | h2
         · cases h2
         · refine .inr (fun e=>h2 ?_);rw [if_neg (by omega)]
       · exact .inl c
     · by_cases c:f / 16 % 2=1
       · rw [if_pos c]at h3
         rcases h3 with h3 | h3
         · cases h3
         · refine .inr (fun e=>h3 ?_);rw [if_neg (by omega)]
       · exact .inl c
   · rintro ⟨⟨⟨_,h1⟩,h2⟩,h3⟩
     refine⟨trivial,h1,?_,?_⟩
     · rcases h2 with h2 | h2
       · exact .inl (if_neg h2)
       · refine .inr ?_;rw [if_pos (by omega)];decide
     · rcases h3 with h3 | h3
       · exact .inl (if_neg h3)
       · refine .inr ?_;rw [if_pos (by omega)];decide
 · have h1:¬bits .and .i64 f (-32)=0:=fun e=>h (Zg0 hw e)
   have h2:flOk f=false:=by
    cases e:flOk f with
    | false=>rfl
    | true=>have:=Z2b e;exact absurd ⟨this.1,this.2.1⟩ h
   rw [h2]
   unfold flB
   rw [decide_eq_false h1];rfl
end Go.Proofs.YtdnjddpfcgginaaGreat
