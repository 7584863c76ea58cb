/-
  Texts of my own, joined: no statement is proved here.
-/
import Derived.Test.YtdnjddpfcgginaaGreatKas
set_option linter.unusedSimpArgs false
set_option linter.unusedVariables false
namespace Go.Proofs.YtdnjddpfcgginaaGreat
open Go.ChangeShapes Go.WideShapes Go.ChangeAt Go.RowKit
set_option maxRecDepth 100000
theorem Z3m {fn:Func} {p r u:Tmp} {tmps:Array Value} {w:World} {g h T n:Nat} {z cs ds:List Value} {x:Value} (hT:Srt T n z) (hf:fn.results=#[.cell p T, .cell r T, .tmp u]) (hp:tmps.getD p undef= .pointer (some ⟨g,0,none⟩)) (hq:tmps.getD r undef= .pointer (some ⟨h,0,none⟩)) (hu:tmps.getD u undef=x) (hR:Cs w g cs) (hl:cs.length=n) (hS:Cs w h ds) (hm:ds.length=n):(results fn tmps).run Tryz.prog w= .ok (.tuple #[.agg cs.toArray, .agg ds.toArray,x]) w:=by
 have hp':tmps[p]?.getD undef= .pointer (some ⟨g,0,none⟩):=by simpa using hp
 have hq':tmps[r]?.getD undef= .pointer (some ⟨h,0,none⟩):=by simpa using hq
 have hu':tmps[u]?.getD undef=x:=by simpa using hu
 simp [results,hf,hp',hq',hu',asAddr,Z44 hT hR hl,Z44 hT hS hm]
theorem Z3p {ops:Array Oper} {o:Oper} {a:Act} {w:World} {Q:Exit→Act→World→Prop} {E:Prop} {K:Act→World→Prop} (hgd:o.guard=none) (x y:Operand) (ho:o.op= .store 145 x y) (g:Nat) (hx:a.eval x= .pointer (some ⟨g,0,none⟩)) (d:Option Nat) (s:List UInt8) (i:Int) (hy:a.eval y= .agg (spC d s i).toArray) (cs:List Value) (hR:Cs w g cs) (hl:cs.length=3)
 (h:∀ w',Cs w' g (spC d s i)→Stp (fun x=>x=g) w w'→K (a.put o.dst undef) w'):if Region.wanted o (yielded ops a.tmps)=true then Oper.wp Tryz.prog o a w K Q else E:=
 Z0n 145 3 _ Z1g hgd x y ho g hx (spC d s i) hy rfl (Z4l _ _ _) cs hR hl h
set_option maxHeartbeats 8000000 in
theorem en_s {w:World} {g:Nat} {o:Oz} {s:Sv} {d f:Option Nat} {a b:List UInt8} {c k:Int} {bI:Bool} {eS:Int} (hE:eS≠0)
 (hS:∀ w',Below w.heap.size w w'→Calls Tryz.prog 133 #[.string (str o.p), .string (str o.q)] w' fun e u=>e= .returned (.tuple #[.bool bI, .int .i64 eS])∧Below w'.heap.size w' u)
 :
  Calls Tryz.prog 106 #[.pointer (some ⟨g,0,none⟩), .agg (opC o s).toArray] w fun e w'=>e= .returned (.tuple #[.agg (spC none [] 0).toArray, .agg (spC none [] 0).toArray, .int .i64 eS])∧Below w.heap.size w w':=by
 have qE:(eS != 0)=true:=by simpa using hE
 have tk1:True:=trivial
 have tk2:True:=trivial
 have tk3:True:=trivial
 have tk4:True:=trivial
 go_enter Tryz.func106,Tryz.ntmps106
 go_wp2_with (first
  | (refine Z05 (by rfl) _ (by rfl) o s (by rfl) ?_;intro g1 w1 z1 z2 r1 b1
     have Bc:=b1
     have v1:=b1.size
     have c11:=r1.cell 1 _ rfl
     have c12:=r1.cell 2 _ rfl)
  | (refine Z08 (by rfl) (by rfl) ?_;clear tk1;intro ga wa zga yga ra bga
     replace Bc:=Z00q Bc bga (Nat.le_refl _)
     have vga:=bga.size
     try (replace r1:=r1.later bga)
     try clear c11 c12
     have c11:=r1.cell 1 _ rfl
     have c12:=r1.cell 2 _ rfl)
  | (refine Z08 (by rfl) (by rfl) ?_;clear tk2;intro gb wb zgb ygb rb bgb
     replace Bc:=Z00q Bc bgb (Nat.le_refl _)
     have vgb:=bgb.size
     try (replace r1:=r1.later bgb)
     try (replace ra:=ra.later bgb)
     try clear c11 c12
     have c11:=r1.cell 1 _ rfl
     have c12:=r1.cell 2 _ rfl)
  | (go_at_call 133;refine(hS _ Bc).mono ?_;rintro e ws1 ⟨rfl,bs1⟩;clear hS
     replace Bc:=Z00q Bc bs1 (Nat.le_refl _)
     have vs1:=bs1.size
     try (replace r1:=r1.later bs1)
     try (replace ra:=ra.later bs1)
     try (replace rb:=rb.later bs1)
     try clear c11 c12
     have c11:=r1.cell 1 _ rfl
     have c12:=r1.cell 2 _ rfl)
  | (refine Z08 (by rfl) (by rfl) ?_;clear tk3;intro g3 wc zg3 yg3 r3 bg3
     replace Bc:=Z00q Bc bg3 (Nat.le_refl _)
     have vg3:=bg3.size
     try (replace r1:=r1.later bg3)
     try (replace ra:=ra.later bg3)
     try (replace rb:=rb.later bg3)
     try clear c11 c12
     have c11:=r1.cell 1 _ rfl
     have c12:=r1.cell 2 _ rfl)
  | (refine Z09 (by rfl) _ _ (by rfl) g3 (by rfl) d a c (by rfl) _ r3 rfl ?_;intro w5 q5 s5
     replace r3:=q5
     have v5:=s5.size
     replace Bc:=((Stp.of_below Bc (fun _=>False)).next s5 (fun y e=> .inr (by omega))).below (Nat.le_refl _) (fun y e=>e.elim)
     try (replace r1:=r1.step s5 (fun e=>by omega))
     try (replace ra:=ra.step s5 (fun e=>by omega))
     try (replace rb:=rb.step s5 (fun e=>by omega))
     try clear c11 c12
     have c11:=r1.cell 1 _ rfl
     have c12:=r1.cell 2 _ rfl
     have d2:=r3.cell 2 _ rfl)
  | (refine Z08 (by rfl) (by rfl) ?_;clear tk4;intro g4 wd zg4 yg4 r4 bg4
     replace Bc:=Z00q Bc bg4 (Nat.le_refl _)
     have vg4:=bg4.size
     try (replace r1:=r1.later bg4)
     try (replace ra:=ra.later bg4)
     try (replace rb:=rb.later bg4)
     try (replace r3:=r3.later bg4)
     try clear c11 c12
     have c11:=r1.cell 1 _ rfl
     have c12:=r1.cell 2 _ rfl)
  | (refine Z09 (by rfl) _ _ (by rfl) g4 (by rfl) f b k (by rfl) _ r4 rfl ?_;intro w6 q6 s6
     replace r4:=q6
     have v6:=s6.size
     replace Bc:=((Stp.of_below Bc (fun _=>False)).next s6 (fun y e=> .inr (by omega))).below (Nat.le_refl _) (fun y e=>e.elim)
     try (replace r1:=r1.step s6 (fun e=>by omega))
     try (replace ra:=ra.step s6 (fun e=>by omega))
     try (replace rb:=rb.step s6 (fun e=>by omega))
     try (replace r3:=r3.step s6 (fun e=>by omega))
     try clear c11 c12
     have c11:=r1.cell 1 _ rfl
     have c12:=r1.cell 2 _ rfl)
  | (refine Z09 (by rfl) _ _ (by rfl) ga (by rfl) none [] 0 (by rfl) _ ra rfl ?_;intro w7 q7 s7
     replace ra:=q7
     have v7:=s7.size
     replace Bc:=((Stp.of_below Bc (fun _=>False)).next s7 (fun y e=> .inr (by omega))).below (Nat.le_refl _) (fun y e=>e.elim)
     try (replace r1:=r1.step s7 (fun e=>by omega))
     try (replace rb:=rb.step s7 (fun e=>by omega))
     try clear c11 c12
     have c11:=r1.cell 1 _ rfl
     have c12:=r1.cell 2 _ rfl)
  | (refine Z09 (by rfl) _ _ (by rfl) gb (by rfl) none [] 0 (by rfl) _ rb rfl ?_;intro w8 q8 s8
     replace rb:=q8
     have v8:=s8.size
     replace Bc:=((Stp.of_below Bc (fun _=>False)).next s8 (fun y e=> .inr (by omega))).below (Nat.le_refl _) (fun y e=>e.elim)
     try (replace r1:=r1.step s8 (fun e=>by omega))
     try (replace ra:=ra.step s8 (fun e=>by omega))
     try clear c11 c12
     have c11:=r1.cell 1 _ rfl
     have c12:=r1.cell 2 _ rfl))
 exact bodyPost_ret (Z3m Z1g Tryz.results106 rfl rfl rfl ra rfl rb rfl) rfl ⟨rfl,Bc⟩
set_option maxHeartbeats 8000000 in
theorem en_p {w:World} {g:Nat} {o:Oz} {s:Sv} {d f:Option Nat} {a b:List UInt8} {c k:Int} {bI:Bool} {eP:Int} (hE:eP≠0)
 (hS:∀ w',Below w.heap.size w w'→Calls Tryz.prog 133 #[.string (str o.p), .string (str o.q)] w' fun e u=>e= .returned (.tuple #[.bool bI, .int .i64 0])∧Below w'.heap.size w' u)
 (hP:∀ w',Below w.heap.size w w'→Calls Tryz.prog 94 #[.pointer (some ⟨g,0,none⟩), .string (str o.p), .int .i64 51] w' fun e u=>e= .returned (.tuple #[.agg (spC d a c).toArray, .int .i64 eP])∧Below w'.heap.size w' u)
 :
  Calls Tryz.prog 106 #[.pointer (some ⟨g,0,none⟩), .agg (opC o s).toArray] w fun e w'=>e= .returned (.tuple #[.agg (spC none [] 0).toArray, .agg (spC none [] 0).toArray, .int .i64 eP])∧Below w.heap.size w w':=by
 have qE:(eP != 0)=true:=by simpa using hE
 have tk1:True:=trivial
 have tk2:True:=trivial
 have tk3:True:=trivial
 have tk4:True:=trivial
 go_enter Tryz.func106,Tryz.ntmps106
 go_wp2_with (first
  | (refine Z05 (by rfl) _ (by rfl) o s (by rfl) ?_;intro g1 w1 z1 z2 r1 b1
     have Bc:=b1
     have v1:=b1.size
     have c11:=r1.cell 1 _ rfl
     have c12:=r1.cell 2 _ rfl)
  | (refine Z08 (by rfl) (by rfl) ?_;clear tk1;intro ga wa zga yga ra bga
     replace Bc:=Z00q Bc bga (Nat.le_refl _)
     have vga:=bga.size
     try (replace r1:=r1.later bga)
     try clear c11 c12
     have c11:=r1.cell 1 _ rfl
     have c12:=r1.cell 2 _ rfl)
  | (refine Z08 (by rfl) (by rfl) ?_;clear tk2;intro gb wb zgb ygb rb bgb
     replace Bc:=Z00q Bc bgb (Nat.le_refl _)
     have vgb:=bgb.size
     try (replace r1:=r1.later bgb)
     try (replace ra:=ra.later bgb)
     try clear c11 c12
     have c11:=r1.cell 1 _ rfl
     have c12:=r1.cell 2 _ rfl)
  | (go_at_call 133;refine(hS _ Bc).mono ?_;rintro e ws1 ⟨rfl,bs1⟩;clear hS
     replace Bc:=Z00q Bc bs1 (Nat.le_refl _)
     have vs1:=bs1.size
     try (replace r1:=r1.later bs1)
     try (replace ra:=ra.later bs1)
     try (replace rb:=rb.later bs1)
     try clear c11 c12
     have c11:=r1.cell 1 _ rfl
     have c12:=r1.cell 2 _ rfl)
  | (go_at_call 94;refine(hP _ Bc).mono ?_;rintro e ws2 ⟨rfl,bs2⟩;clear hP
     replace Bc:=Z00q Bc bs2 (Nat.le_refl _)
     have vs2:=bs2.size
     try (replace r1:=r1.later bs2)
     try (replace ra:=ra.later bs2)
     try (replace rb:=rb.later bs2)
     try clear c11 c12
     have c11:=r1.cell 1 _ rfl
     have c12:=r1.cell 2 _ rfl)
  | (refine Z08 (by rfl) (by rfl) ?_;clear tk3;intro g3 wc zg3 yg3 r3 bg3
     replace Bc:=Z00q Bc bg3 (Nat.le_refl _)
     have vg3:=bg3.size
     try (replace r1:=r1.later bg3)
     try (replace ra:=ra.later bg3)
     try (replace rb:=rb.later bg3)
     try clear c11 c12
     have c11:=r1.cell 1 _ rfl
     have c12:=r1.cell 2 _ rfl)
  | (refine Z09 (by rfl) _ _ (by rfl) g3 (by rfl) d a c (by rfl) _ r3 rfl ?_;intro w5 q5 s5
     replace r3:=q5
     have v5:=s5.size
     replace Bc:=((Stp.of_below Bc (fun _=>False)).next s5 (fun y e=> .inr (by omega))).below (Nat.le_refl _) (fun y e=>e.elim)
     try (replace r1:=r1.step s5 (fun e=>by omega))
     try (replace ra:=ra.step s5 (fun e=>by omega))
     try (replace rb:=rb.step s5 (fun e=>by omega))
     try clear c11 c12
     have c11:=r1.cell 1 _ rfl
     have c12:=r1.cell 2 _ rfl
     have d2:=r3.cell 2 _ rfl)
  | (refine Z08 (by rfl) (by rfl) ?_;clear tk4;intro g4 wd zg4 yg4 r4 bg4
     replace Bc:=Z00q Bc bg4 (Nat.le_refl _)
     have vg4:=bg4.size
     try (replace r1:=r1.later bg4)
     try (replace ra:=ra.later bg4)
     try (replace rb:=rb.later bg4)
     try (replace r3:=r3.later bg4)
     try clear c11 c12
     have c11:=r1.cell 1 _ rfl
     have c12:=r1.cell 2 _ rfl)
  | (refine Z09 (by rfl) _ _ (by rfl) g4 (by rfl) f b k (by rfl) _ r4 rfl ?_;intro w6 q6 s6
     replace r4:=q6
     have v6:=s6.size
     replace Bc:=((Stp.of_below Bc (fun _=>False)).next s6 (fun y e=> .inr (by omega))).below (Nat.le_refl _) (fun y e=>e.elim)
     try (replace r1:=r1.step s6 (fun e=>by omega))
     try (replace ra:=ra.step s6 (fun e=>by omega))
     try (replace rb:=rb.step s6 (fun e=>by omega))
     try (replace r3:=r3.step s6 (fun e=>by omega))
     try clear c11 c12
     have c11:=r1.cell 1 _ rfl
     have c12:=r1.cell 2 _ rfl)
  | (refine Z09 (by rfl) _ _ (by rfl) ga (by rfl) none [] 0 (by rfl) _ ra rfl ?_;intro w7 q7 s7
     replace ra:=q7
     have v7:=s7.size
     replace Bc:=((Stp.of_below Bc (fun _=>False)).next s7 (fun y e=> .inr (by omega))).below (Nat.le_refl _) (fun y e=>e.elim)
     try (replace r1:=r1.step s7 (fun e=>by omega))
     try (replace rb:=rb.step s7 (fun e=>by omega))
     try clear c11 c12
     have c11:=r1.cell 1 _ rfl
     have c12:=r1.cell 2 _ rfl)
  | (refine Z09 (by rfl) _ _ (by rfl) gb (by rfl) none [] 0 (by rfl) _ rb rfl ?_;intro w8 q8 s8
     replace rb:=q8
     have v8:=s8.size
     replace Bc:=((Stp.of_below Bc (fun _=>False)).next s8 (fun y e=> .inr (by omega))).below (Nat.le_refl _) (fun y e=>e.elim)
     try (replace r1:=r1.step s8 (fun e=>by omega))
     try (replace ra:=ra.step s8 (fun e=>by omega))
     try clear c11 c12
     have c11:=r1.cell 1 _ rfl
     have c12:=r1.cell 2 _ rfl))
 exact bodyPost_ret (Z3m Z1g Tryz.results106 rfl rfl rfl ra rfl rb rfl) rfl ⟨rfl,Bc⟩
set_option maxHeartbeats 8000000 in
theorem en_n {w:World} {g:Nat} {o:Oz} {s:Sv} {d f:Option Nat} {a b:List UInt8} {bI:Bool}
 (hS:∀ w',Below w.heap.size w w'→Calls Tryz.prog 133 #[.string (str o.p), .string (str o.q)] w' fun e u=>e= .returned (.tuple #[.bool bI, .int .i64 0])∧Below w'.heap.size w' u)
 (hP:∀ w',Below w.heap.size w w'→Calls Tryz.prog 94 #[.pointer (some ⟨g,0,none⟩), .string (str o.p), .int .i64 51] w' fun e u=>e= .returned (.tuple #[.agg (spC d a 0).toArray, .int .i64 0])∧Below w'.heap.size w' u)
 :
  Calls Tryz.prog 106 #[.pointer (some ⟨g,0,none⟩), .agg (opC o s).toArray] w fun e w'=>e= .returned (.tuple #[.agg (spC none [] 0).toArray, .agg (spC none [] 0).toArray, .int .i64 40])∧Below w.heap.size w w':=by
 have tk1:True:=trivial
 have tk2:True:=trivial
 have tk3:True:=trivial
 have tk4:True:=trivial
 go_enter Tryz.func106,Tryz.ntmps106
 go_wp2_with (first
  | (refine Z05 (by rfl) _ (by rfl) o s (by rfl) ?_;intro g1 w1 z1 z2 r1 b1
     have Bc:=b1
     have v1:=b1.size
     have c11:=r1.cell 1 _ rfl
     have c12:=r1.cell 2 _ rfl)
  | (refine Z08 (by rfl) (by rfl) ?_;clear tk1;intro ga wa zga yga ra bga
     replace Bc:=Z00q Bc bga (Nat.le_refl _)
     have vga:=bga.size
     try (replace r1:=r1.later bga)
     try clear c11 c12
     have c11:=r1.cell 1 _ rfl
     have c12:=r1.cell 2 _ rfl)
  | (refine Z08 (by rfl) (by rfl) ?_;clear tk2;intro gb wb zgb ygb rb bgb
     replace Bc:=Z00q Bc bgb (Nat.le_refl _)
     have vgb:=bgb.size
     try (replace r1:=r1.later bgb)
     try (replace ra:=ra.later bgb)
     try clear c11 c12
     have c11:=r1.cell 1 _ rfl
     have c12:=r1.cell 2 _ rfl)
  | (go_at_call 133;refine(hS _ Bc).mono ?_;rintro e ws1 ⟨rfl,bs1⟩;clear hS
     replace Bc:=Z00q Bc bs1 (Nat.le_refl _)
     have vs1:=bs1.size
     try (replace r1:=r1.later bs1)
     try (replace ra:=ra.later bs1)
     try (replace rb:=rb.later bs1)
     try clear c11 c12
     have c11:=r1.cell 1 _ rfl
     have c12:=r1.cell 2 _ rfl)
  | (go_at_call 94;refine(hP _ Bc).mono ?_;rintro e ws2 ⟨rfl,bs2⟩;clear hP
     replace Bc:=Z00q Bc bs2 (Nat.le_refl _)
     have vs2:=bs2.size
     try (replace r1:=r1.later bs2)
     try (replace ra:=ra.later bs2)
     try (replace rb:=rb.later bs2)
     try clear c11 c12
     have c11:=r1.cell 1 _ rfl
     have c12:=r1.cell 2 _ rfl)
  | (refine Z08 (by rfl) (by rfl) ?_;clear tk3;intro g3 wc zg3 yg3 r3 bg3
     replace Bc:=Z00q Bc bg3 (Nat.le_refl _)
     have vg3:=bg3.size
     try (replace r1:=r1.later bg3)
     try (replace ra:=ra.later bg3)
     try (replace rb:=rb.later bg3)
     try clear c11 c12
     have c11:=r1.cell 1 _ rfl
     have c12:=r1.cell 2 _ rfl)
  | (refine Z09 (by rfl) _ _ (by rfl) g3 (by rfl) d a 0 (by rfl) _ r3 rfl ?_;intro w5 q5 s5
     replace r3:=q5
     have v5:=s5.size
     replace Bc:=((Stp.of_below Bc (fun _=>False)).next s5 (fun y e=> .inr (by omega))).below (Nat.le_refl _) (fun y e=>e.elim)
     try (replace r1:=r1.step s5 (fun e=>by omega))
     try (replace ra:=ra.step s5 (fun e=>by omega))
     try (replace rb:=rb.step s5 (fun e=>by omega))
     try clear c11 c12
     have c11:=r1.cell 1 _ rfl
     have c12:=r1.cell 2 _ rfl
     have d2:=r3.cell 2 _ rfl)
  | (refine Z08 (by rfl) (by rfl) ?_;clear tk4;intro g4 wd zg4 yg4 r4 bg4
     replace Bc:=Z00q Bc bg4 (Nat.le_refl _)
     have vg4:=bg4.size
     try (replace r1:=r1.later bg4)
     try (replace ra:=ra.later bg4)
     try (replace rb:=rb.later bg4)
     try (replace r3:=r3.later bg4)
     try clear c11 c12
     have c11:=r1.cell 1 _ rfl
     have c12:=r1.cell 2 _ rfl)
  | (refine Z09 (by rfl) _ _ (by rfl) g4 (by rfl) f b k (by rfl) _ r4 rfl ?_;intro w6 q6 s6
     replace r4:=q6
     have v6:=s6.size
     replace Bc:=((Stp.of_below Bc (fun _=>False)).next s6 (fun y e=> .inr (by omega))).below (Nat.le_refl _) (fun y e=>e.elim)
     try (replace r1:=r1.step s6 (fun e=>by omega))
     try (replace ra:=ra.step s6 (fun e=>by omega))
     try (replace rb:=rb.step s6 (fun e=>by omega))
     try (replace r3:=r3.step s6 (fun e=>by omega))
     try clear c11 c12
     have c11:=r1.cell 1 _ rfl
     have c12:=r1.cell 2 _ rfl)
  | (refine Z09 (by rfl) _ _ (by rfl) ga (by rfl) none [] 0 (by rfl) _ ra rfl ?_;intro w7 q7 s7
     replace ra:=q7
     have v7:=s7.size
     replace Bc:=((Stp.of_below Bc (fun _=>False)).next s7 (fun y e=> .inr (by omega))).below (Nat.le_refl _) (fun y e=>e.elim)
     try (replace r1:=r1.step s7 (fun e=>by omega))
     try (replace rb:=rb.step s7 (fun e=>by omega))
     try clear c11 c12
     have c11:=r1.cell 1 _ rfl
     have c12:=r1.cell 2 _ rfl)
  | (refine Z09 (by rfl) _ _ (by rfl) gb (by rfl) none [] 0 (by rfl) _ rb rfl ?_;intro w8 q8 s8
     replace rb:=q8
     have v8:=s8.size
     replace Bc:=((Stp.of_below Bc (fun _=>False)).next s8 (fun y e=> .inr (by omega))).below (Nat.le_refl _) (fun y e=>e.elim)
     try (replace r1:=r1.step s8 (fun e=>by omega))
     try (replace ra:=ra.step s8 (fun e=>by omega))
     try clear c11 c12
     have c11:=r1.cell 1 _ rfl
     have c12:=r1.cell 2 _ rfl))
 exact bodyPost_ret (Z3m Z1g Tryz.results106 rfl rfl rfl ra rfl rb rfl) rfl ⟨rfl,Bc⟩
set_option maxHeartbeats 8000000 in
theorem en_i {w:World} {g:Nat} {o:Oz} {s:Sv} {d f:Option Nat} {a b:List UInt8} {c k:Int}(hc:c≠0)
 (hS:∀ w',Below w.heap.size w w'→Calls Tryz.prog 133 #[.string (str o.p), .string (str o.q)] w' fun e u=>e= .returned (.tuple #[.bool true, .int .i64 0])∧Below w'.heap.size w' u)
 (hP:∀ w',Below w.heap.size w w'→Calls Tryz.prog 94 #[.pointer (some ⟨g,0,none⟩), .string (str o.p), .int .i64 51] w' fun e u=>e= .returned (.tuple #[.agg (spC d a c).toArray, .int .i64 0])∧Below w'.heap.size w' u)
 (hD:∀ w',Below w.heap.size w w'→Calls Tryz.prog 104 #[.pointer (some ⟨g,0,none⟩), .int .i64 c] w' fun e u=>e= .returned (.bool true)∧w'=u)
 :
  Calls Tryz.prog 106 #[.pointer (some ⟨g,0,none⟩), .agg (opC o s).toArray] w fun e w'=>e= .returned (.tuple #[.agg (spC none [] 0).toArray, .agg (spC none [] 0).toArray, .int .i64 49])∧Below w.heap.size w w':=by
 have qc:(c==0)=false:=by simpa using hc
 have tk1:True:=trivial
 have tk2:True:=trivial
 have tk3:True:=trivial
 have tk4:True:=trivial
 go_enter Tryz.func106,Tryz.ntmps106
 go_wp2_with (first
  | (refine Z05 (by rfl) _ (by rfl) o s (by rfl) ?_;intro g1 w1 z1 z2 r1 b1
     have Bc:=b1
     have v1:=b1.size
     have c11:=r1.cell 1 _ rfl
     have c12:=r1.cell 2 _ rfl)
  | (refine Z08 (by rfl) (by rfl) ?_;clear tk1;intro ga wa zga yga ra bga
     replace Bc:=Z00q Bc bga (Nat.le_refl _)
     have vga:=bga.size
     try (replace r1:=r1.later bga)
     try clear c11 c12
     have c11:=r1.cell 1 _ rfl
     have c12:=r1.cell 2 _ rfl)
  | (refine Z08 (by rfl) (by rfl) ?_;clear tk2;intro gb wb zgb ygb rb bgb
     replace Bc:=Z00q Bc bgb (Nat.le_refl _)
     have vgb:=bgb.size
     try (replace r1:=r1.later bgb)
     try (replace ra:=ra.later bgb)
     try clear c11 c12
     have c11:=r1.cell 1 _ rfl
     have c12:=r1.cell 2 _ rfl)
  | (go_at_call 133;refine(hS _ Bc).mono ?_;rintro e ws1 ⟨rfl,bs1⟩;clear hS
     replace Bc:=Z00q Bc bs1 (Nat.le_refl _)
     have vs1:=bs1.size
     try (replace r1:=r1.later bs1)
     try (replace ra:=ra.later bs1)
     try (replace rb:=rb.later bs1)
     try clear c11 c12
     have c11:=r1.cell 1 _ rfl
     have c12:=r1.cell 2 _ rfl)
  | (go_at_call 94;refine(hP _ Bc).mono ?_;rintro e ws2 ⟨rfl,bs2⟩;clear hP
     replace Bc:=Z00q Bc bs2 (Nat.le_refl _)
     have vs2:=bs2.size
     try (replace r1:=r1.later bs2)
     try (replace ra:=ra.later bs2)
     try (replace rb:=rb.later bs2)
     try clear c11 c12
     have c11:=r1.cell 1 _ rfl
     have c12:=r1.cell 2 _ rfl)
  | (refine Z08 (by rfl) (by rfl) ?_;clear tk3;intro g3 wc zg3 yg3 r3 bg3
     replace Bc:=Z00q Bc bg3 (Nat.le_refl _)
     have vg3:=bg3.size
     try (replace r1:=r1.later bg3)
     try (replace ra:=ra.later bg3)
     try (replace rb:=rb.later bg3)
     try clear c11 c12
     have c11:=r1.cell 1 _ rfl
     have c12:=r1.cell 2 _ rfl)
  | (refine Z09 (by rfl) _ _ (by rfl) g3 (by rfl) d a c (by rfl) _ r3 rfl ?_;intro w5 q5 s5
     replace r3:=q5
     have v5:=s5.size
     replace Bc:=((Stp.of_below Bc (fun _=>False)).next s5 (fun y e=> .inr (by omega))).below (Nat.le_refl _) (fun y e=>e.elim)
     try (replace r1:=r1.step s5 (fun e=>by omega))
     try (replace ra:=ra.step s5 (fun e=>by omega))
     try (replace rb:=rb.step s5 (fun e=>by omega))
     try clear c11 c12
     have c11:=r1.cell 1 _ rfl
     have c12:=r1.cell 2 _ rfl
     have d2:=r3.cell 2 _ rfl)
  | (go_at_call 104;refine(hD _ Bc).mono ?_;rintro e u ⟨rfl,rfl⟩)
  | (refine Z08 (by rfl) (by rfl) ?_;clear tk4;intro g4 wd zg4 yg4 r4 bg4
     replace Bc:=Z00q Bc bg4 (Nat.le_refl _)
     have vg4:=bg4.size
     try (replace r1:=r1.later bg4)
     try (replace ra:=ra.later bg4)
     try (replace rb:=rb.later bg4)
     try (replace r3:=r3.later bg4)
     try clear c11 c12
     have c11:=r1.cell 1 _ rfl
     have c12:=r1.cell 2 _ rfl)
  | (refine Z09 (by rfl) _ _ (by rfl) g4 (by rfl) f b k (by rfl) _ r4 rfl ?_;intro w6 q6 s6
     replace r4:=q6
     have v6:=s6.size
     replace Bc:=((Stp.of_below Bc (fun _=>False)).next s6 (fun y e=> .inr (by omega))).below (Nat.le_refl _) (fun y e=>e.elim)
     try (replace r1:=r1.step s6 (fun e=>by omega))
     try (replace ra:=ra.step s6 (fun e=>by omega))
     try (replace rb:=rb.step s6 (fun e=>by omega))
     try (replace r3:=r3.step s6 (fun e=>by omega))
     try clear c11 c12
     have c11:=r1.cell 1 _ rfl
     have c12:=r1.cell 2 _ rfl)
  | (refine Z09 (by rfl) _ _ (by rfl) ga (by rfl) none [] 0 (by rfl) _ ra rfl ?_;intro w7 q7 s7
     replace ra:=q7
     have v7:=s7.size
     replace Bc:=((Stp.of_below Bc (fun _=>False)).next s7 (fun y e=> .inr (by omega))).below (Nat.le_refl _) (fun y e=>e.elim)
     try (replace r1:=r1.step s7 (fun e=>by omega))
     try (replace rb:=rb.step s7 (fun e=>by omega))
     try clear c11 c12
     have c11:=r1.cell 1 _ rfl
     have c12:=r1.cell 2 _ rfl)
  | (refine Z09 (by rfl) _ _ (by rfl) gb (by rfl) none [] 0 (by rfl) _ rb rfl ?_;intro w8 q8 s8
     replace rb:=q8
     have v8:=s8.size
     replace Bc:=((Stp.of_below Bc (fun _=>False)).next s8 (fun y e=> .inr (by omega))).below (Nat.le_refl _) (fun y e=>e.elim)
     try (replace r1:=r1.step s8 (fun e=>by omega))
     try (replace ra:=ra.step s8 (fun e=>by omega))
     try clear c11 c12
     have c11:=r1.cell 1 _ rfl
     have c12:=r1.cell 2 _ rfl))
 exact bodyPost_ret (Z3m Z1g Tryz.results106 rfl rfl rfl ra rfl rb rfl) rfl ⟨rfl,Bc⟩
set_option maxHeartbeats 8000000 in
theorem Zg7 {w:World} {g:Nat} {o:Oz} {s:Sv} {d f:Option Nat} {a b:List UInt8} {c k:Int} {eQ:Int} (hc:c≠0) (hE:eQ≠0)
 (hS:∀ w',Below w.heap.size w w'→Calls Tryz.prog 133 #[.string (str o.p), .string (str o.q)] w' fun e u=>e= .returned (.tuple #[.bool false, .int .i64 0])∧Below w'.heap.size w' u)
 (hP:∀ w',Below w.heap.size w w'→Calls Tryz.prog 94 #[.pointer (some ⟨g,0,none⟩), .string (str o.p), .int .i64 51] w' fun e u=>e= .returned (.tuple #[.agg (spC d a c).toArray, .int .i64 0])∧Below w'.heap.size w' u)
 (hQ:∀ w',Below w.heap.size w w'→Calls Tryz.prog 94 #[.pointer (some ⟨g,0,none⟩), .string (str o.q), .int .i64 51] w' fun e u=>e= .returned (.tuple #[.agg (spC f b k).toArray, .int .i64 eQ])∧Below w'.heap.size w' u):
 Calls Tryz.prog 106 #[.pointer (some ⟨g,0,none⟩), .agg (opC o s).toArray] w fun e w'=>e= .returned (.tuple #[.agg (spC none [] 0).toArray, .agg (spC none [] 0).toArray, .int .i64 eQ])∧Below w.heap.size w w':=by
 have qc:(c==0)=false:=by simpa using hc
 have qE:(eQ != 0)=true:=by simpa using hE
 have tk1:True:=trivial
 have tk2:True:=trivial
 have tk3:True:=trivial
 have tk4:True:=trivial
 go_enter Tryz.func106,Tryz.ntmps106
 go_wp2_with (first
  | (refine Z05 (by rfl) _ (by rfl) o s (by rfl) ?_;intro g1 w1 z1 z2 r1 b1
     have Bc:=b1
     have v1:=b1.size
     have c11:=r1.cell 1 _ rfl
     have c12:=r1.cell 2 _ rfl)
  | (refine Z08 (by rfl) (by rfl) ?_;clear tk1;intro ga wa zga yga ra bga
     replace Bc:=Z00q Bc bga (Nat.le_refl _)
     have vga:=bga.size
     try (replace r1:=r1.later bga)
     try clear c11 c12
     have c11:=r1.cell 1 _ rfl
     have c12:=r1.cell 2 _ rfl)
  | (refine Z08 (by rfl) (by rfl) ?_;clear tk2;intro gb wb zgb ygb rb bgb
     replace Bc:=Z00q Bc bgb (Nat.le_refl _)
     have vgb:=bgb.size
     try (replace r1:=r1.later bgb)
     try (replace ra:=ra.later bgb)
     try clear c11 c12
     have c11:=r1.cell 1 _ rfl
     have c12:=r1.cell 2 _ rfl)
  | (go_at_call 133;refine(hS _ Bc).mono ?_;rintro e ws1 ⟨rfl,bs1⟩;clear hS
     replace Bc:=Z00q Bc bs1 (Nat.le_refl _)
     have vs1:=bs1.size
     try (replace r1:=r1.later bs1)
     try (replace ra:=ra.later bs1)
     try (replace rb:=rb.later bs1)
     try clear c11 c12
     have c11:=r1.cell 1 _ rfl
     have c12:=r1.cell 2 _ rfl)
  | (go_at_call 94;refine(hP _ Bc).mono ?_;rintro e ws2 ⟨rfl,bs2⟩;clear hP
     replace Bc:=Z00q Bc bs2 (Nat.le_refl _)
     have vs2:=bs2.size
     try (replace r1:=r1.later bs2)
     try (replace ra:=ra.later bs2)
     try (replace rb:=rb.later bs2)
     try clear c11 c12
     have c11:=r1.cell 1 _ rfl
     have c12:=r1.cell 2 _ rfl)
  | (refine Z08 (by rfl) (by rfl) ?_;clear tk3;intro g3 wc zg3 yg3 r3 bg3
     replace Bc:=Z00q Bc bg3 (Nat.le_refl _)
     have vg3:=bg3.size
     try (replace r1:=r1.later bg3)
     try (replace ra:=ra.later bg3)
     try (replace rb:=rb.later bg3)
     try clear c11 c12
     have c11:=r1.cell 1 _ rfl
     have c12:=r1.cell 2 _ rfl)
  | (refine Z09 (by rfl) _ _ (by rfl) g3 (by rfl) d a c (by rfl) _ r3 rfl ?_;intro w5 q5 s5
     replace r3:=q5
     have v5:=s5.size
     replace Bc:=((Stp.of_below Bc (fun _=>False)).next s5 (fun y e=> .inr (by omega))).below (Nat.le_refl _) (fun y e=>e.elim)
     try (replace r1:=r1.step s5 (fun e=>by omega))
     try (replace ra:=ra.step s5 (fun e=>by omega))
     try (replace rb:=rb.step s5 (fun e=>by omega))
     try clear c11 c12
     have c11:=r1.cell 1 _ rfl
     have c12:=r1.cell 2 _ rfl
     have d2:=r3.cell 2 _ rfl)
  | (go_at_call 94;refine(hQ _ Bc).mono ?_;rintro e ws3 ⟨rfl,bs3⟩;clear hQ
     replace Bc:=Z00q Bc bs3 (Nat.le_refl _)
     have vs3:=bs3.size
     try (replace r1:=r1.later bs3)
     try (replace ra:=ra.later bs3)
     try (replace rb:=rb.later bs3)
     try (replace r3:=r3.later bs3)
     try clear c11 c12
     have c11:=r1.cell 1 _ rfl
     have c12:=r1.cell 2 _ rfl)
  | (refine Z08 (by rfl) (by rfl) ?_;clear tk4;intro g4 wd zg4 yg4 r4 bg4
     replace Bc:=Z00q Bc bg4 (Nat.le_refl _)
     have vg4:=bg4.size
     try (replace r1:=r1.later bg4)
     try (replace ra:=ra.later bg4)
     try (replace rb:=rb.later bg4)
     try (replace r3:=r3.later bg4)
     try clear c11 c12
     have c11:=r1.cell 1 _ rfl
     have c12:=r1.cell 2 _ rfl)
  | (refine Z09 (by rfl) _ _ (by rfl) g4 (by rfl) f b k (by rfl) _ r4 rfl ?_;intro w6 q6 s6
     replace r4:=q6
     have v6:=s6.size
     replace Bc:=((Stp.of_below Bc (fun _=>False)).next s6 (fun y e=> .inr (by omega))).below (Nat.le_refl _) (fun y e=>e.elim)
     try (replace r1:=r1.step s6 (fun e=>by omega))
     try (replace ra:=ra.step s6 (fun e=>by omega))
     try (replace rb:=rb.step s6 (fun e=>by omega))
     try (replace r3:=r3.step s6 (fun e=>by omega))
     try clear c11 c12
     have c11:=r1.cell 1 _ rfl
     have c12:=r1.cell 2 _ rfl)
  | (refine Z09 (by rfl) _ _ (by rfl) ga (by rfl) none [] 0 (by rfl) _ ra rfl ?_;intro w7 q7 s7
     replace ra:=q7
     have v7:=s7.size
     replace Bc:=((Stp.of_below Bc (fun _=>False)).next s7 (fun y e=> .inr (by omega))).below (Nat.le_refl _) (fun y e=>e.elim)
     try (replace r1:=r1.step s7 (fun e=>by omega))
     try (replace rb:=rb.step s7 (fun e=>by omega))
     try clear c11 c12
     have c11:=r1.cell 1 _ rfl
     have c12:=r1.cell 2 _ rfl)
  | (refine Z09 (by rfl) _ _ (by rfl) gb (by rfl) none [] 0 (by rfl) _ rb rfl ?_;intro w8 q8 s8
     replace rb:=q8
     have v8:=s8.size
     replace Bc:=((Stp.of_below Bc (fun _=>False)).next s8 (fun y e=> .inr (by omega))).below (Nat.le_refl _) (fun y e=>e.elim)
     try (replace r1:=r1.step s8 (fun e=>by omega))
     try (replace ra:=ra.step s8 (fun e=>by omega))
     try clear c11 c12
     have c11:=r1.cell 1 _ rfl
     have c12:=r1.cell 2 _ rfl))
 exact bodyPost_ret (Z3m Z1g Tryz.results106 rfl rfl rfl ra rfl rb rfl) rfl ⟨rfl,Bc⟩
set_option maxHeartbeats 8000000 in
theorem Zg8 {w:World} {g:Nat} {o:Oz} {s:Sv} {d f:Option Nat} {a b:List UInt8} {c k:Int} {eQ:Int} (hc:c≠0) (hE:eQ≠0)
 (hS:∀ w',Below w.heap.size w w'→Calls Tryz.prog 133 #[.string (str o.p), .string (str o.q)] w' fun e u=>e= .returned (.tuple #[.bool true, .int .i64 0])∧Below w'.heap.size w' u)
 (hP:∀ w',Below w.heap.size w w'→Calls Tryz.prog 94 #[.pointer (some ⟨g,0,none⟩), .string (str o.p), .int .i64 51] w' fun e u=>e= .returned (.tuple #[.agg (spC d a c).toArray, .int .i64 0])∧Below w'.heap.size w' u)
 (hD:∀ w',Below w.heap.size w w'→Calls Tryz.prog 104 #[.pointer (some ⟨g,0,none⟩), .int .i64 c] w' fun e u=>e= .returned (.bool false)∧w'=u)
 (hQ:∀ w',Below w.heap.size w w'→Calls Tryz.prog 94 #[.pointer (some ⟨g,0,none⟩), .string (str o.q), .int .i64 51] w' fun e u=>e= .returned (.tuple #[.agg (spC f b k).toArray, .int .i64 eQ])∧Below w'.heap.size w' u):
 Calls Tryz.prog 106 #[.pointer (some ⟨g,0,none⟩), .agg (opC o s).toArray] w fun e w'=>e= .returned (.tuple #[.agg (spC none [] 0).toArray, .agg (spC none [] 0).toArray, .int .i64 eQ])∧Below w.heap.size w w':=by
 have qc:(c==0)=false:=by simpa using hc
 have qE:(eQ != 0)=true:=by simpa using hE
 have tk1:True:=trivial
 have tk2:True:=trivial
 have tk3:True:=trivial
 have tk4:True:=trivial
 go_enter Tryz.func106,Tryz.ntmps106
 go_wp2_with (first
  | (refine Z05 (by rfl) _ (by rfl) o s (by rfl) ?_;intro g1 w1 z1 z2 r1 b1
     have Bc:=b1
     have v1:=b1.size
     have c11:=r1.cell 1 _ rfl
     have c12:=r1.cell 2 _ rfl)
  | (refine Z08 (by rfl) (by rfl) ?_;clear tk1;intro ga wa zga yga ra bga
     replace Bc:=Z00q Bc bga (Nat.le_refl _)
     have vga:=bga.size
     try (replace r1:=r1.later bga)
     try clear c11 c12
     have c11:=r1.cell 1 _ rfl
     have c12:=r1.cell 2 _ rfl)
  | (refine Z08 (by rfl) (by rfl) ?_;clear tk2;intro gb wb zgb ygb rb bgb
     replace Bc:=Z00q Bc bgb (Nat.le_refl _)
     have vgb:=bgb.size
     try (replace r1:=r1.later bgb)
     try (replace ra:=ra.later bgb)
     try clear c11 c12
     have c11:=r1.cell 1 _ rfl
     have c12:=r1.cell 2 _ rfl)
  | (go_at_call 133;refine(hS _ Bc).mono ?_;rintro e ws1 ⟨rfl,bs1⟩;clear hS
     replace Bc:=Z00q Bc bs1 (Nat.le_refl _)
     have vs1:=bs1.size
     try (replace r1:=r1.later bs1)
     try (replace ra:=ra.later bs1)
     try (replace rb:=rb.later bs1)
     try clear c11 c12
     have c11:=r1.cell 1 _ rfl
     have c12:=r1.cell 2 _ rfl)
  | (go_at_call 94;refine(hP _ Bc).mono ?_;rintro e ws2 ⟨rfl,bs2⟩;clear hP
     replace Bc:=Z00q Bc bs2 (Nat.le_refl _)
     have vs2:=bs2.size
     try (replace r1:=r1.later bs2)
     try (replace ra:=ra.later bs2)
     try (replace rb:=rb.later bs2)
     try clear c11 c12
     have c11:=r1.cell 1 _ rfl
     have c12:=r1.cell 2 _ rfl)
  | (refine Z08 (by rfl) (by rfl) ?_;clear tk3;intro g3 wc zg3 yg3 r3 bg3
     replace Bc:=Z00q Bc bg3 (Nat.le_refl _)
     have vg3:=bg3.size
     try (replace r1:=r1.later bg3)
     try (replace ra:=ra.later bg3)
     try (replace rb:=rb.later bg3)
     try clear c11 c12
     have c11:=r1.cell 1 _ rfl
     have c12:=r1.cell 2 _ rfl)
  | (refine Z09 (by rfl) _ _ (by rfl) g3 (by rfl) d a c (by rfl) _ r3 rfl ?_;intro w5 q5 s5
     replace r3:=q5
     have v5:=s5.size
     replace Bc:=((Stp.of_below Bc (fun _=>False)).next s5 (fun y e=> .inr (by omega))).below (Nat.le_refl _) (fun y e=>e.elim)
     try (replace r1:=r1.step s5 (fun e=>by omega))
     try (replace ra:=ra.step s5 (fun e=>by omega))
     try (replace rb:=rb.step s5 (fun e=>by omega))
     try clear c11 c12
     have c11:=r1.cell 1 _ rfl
     have c12:=r1.cell 2 _ rfl
     have d2:=r3.cell 2 _ rfl)
  | (go_at_call 104;refine(hD _ Bc).mono ?_;rintro e u ⟨rfl,rfl⟩)
  | (go_at_call 94;refine(hQ _ Bc).mono ?_;rintro e ws3 ⟨rfl,bs3⟩;clear hQ
     replace Bc:=Z00q Bc bs3 (Nat.le_refl _)
     have vs3:=bs3.size
     try (replace r1:=r1.later bs3)
     try (replace ra:=ra.later bs3)
     try (replace rb:=rb.later bs3)
     try (replace r3:=r3.later bs3)
     try clear c11 c12
     have c11:=r1.cell 1 _ rfl
     have c12:=r1.cell 2 _ rfl)
  | (refine Z08 (by rfl) (by rfl) ?_;clear tk4;intro g4 wd zg4 yg4 r4 bg4
     replace Bc:=Z00q Bc bg4 (Nat.le_refl _)
     have vg4:=bg4.size
     try (replace r1:=r1.later bg4)
     try (replace ra:=ra.later bg4)
     try (replace rb:=rb.later bg4)
     try (replace r3:=r3.later bg4)
     try clear c11 c12
     have c11:=r1.cell 1 _ rfl
     have c12:=r1.cell 2 _ rfl)
  | (refine Z09 (by rfl) _ _ (by rfl) g4 (by rfl) f b k (by rfl) _ r4 rfl ?_;intro w6 q6 s6
     replace r4:=q6
     have v6:=s6.size
     replace Bc:=((Stp.of_below Bc (fun _=>False)).next s6 (fun y e=> .inr (by omega))).below (Nat.le_refl _) (fun y e=>e.elim)
     try (replace r1:=r1.step s6 (fun e=>by omega))
     try (replace ra:=ra.step s6 (fun e=>by omega))
     try (replace rb:=rb.step s6 (fun e=>by omega))
     try (replace r3:=r3.step s6 (fun e=>by omega))
     try clear c11 c12
     have c11:=r1.cell 1 _ rfl
     have c12:=r1.cell 2 _ rfl)
  | (refine Z09 (by rfl) _ _ (by rfl) ga (by rfl) none [] 0 (by rfl) _ ra rfl ?_;intro w7 q7 s7
     replace ra:=q7
     have v7:=s7.size
     replace Bc:=((Stp.of_below Bc (fun _=>False)).next s7 (fun y e=> .inr (by omega))).below (Nat.le_refl _) (fun y e=>e.elim)
     try (replace r1:=r1.step s7 (fun e=>by omega))
     try (replace rb:=rb.step s7 (fun e=>by omega))
     try clear c11 c12
     have c11:=r1.cell 1 _ rfl
     have c12:=r1.cell 2 _ rfl)
  | (refine Z09 (by rfl) _ _ (by rfl) gb (by rfl) none [] 0 (by rfl) _ rb rfl ?_;intro w8 q8 s8
     replace rb:=q8
     have v8:=s8.size
     replace Bc:=((Stp.of_below Bc (fun _=>False)).next s8 (fun y e=> .inr (by omega))).below (Nat.le_refl _) (fun y e=>e.elim)
     try (replace r1:=r1.step s8 (fun e=>by omega))
     try (replace ra:=ra.step s8 (fun e=>by omega))
     try clear c11 c12
     have c11:=r1.cell 1 _ rfl
     have c12:=r1.cell 2 _ rfl))
 exact bodyPost_ret (Z3m Z1g Tryz.results106 rfl rfl rfl ra rfl rb rfl) rfl ⟨rfl,Bc⟩
end Go.Proofs.YtdnjddpfcgginaaGreat
