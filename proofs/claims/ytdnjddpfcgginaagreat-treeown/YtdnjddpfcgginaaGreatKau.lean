/-
  Texts of my own, joined: no statement is proved here.
-/
import Derived.Test.YtdnjddpfcgginaaGreatKat
set_option linter.unusedSimpArgs false
set_option linter.unusedVariables false
namespace Go.Proofs.YtdnjddpfcgginaaGreat
open Go.ChangeShapes Go.WideShapes Go.ChangeAt Go.RowKit
set_option maxRecDepth 100000
set_option maxHeartbeats 8000000 in
theorem Zg9 {w:World} {g:Nat} {o:Oz} {s:Sv} {d f:Option Nat} {a b:List UInt8} {c k:Int} (hc:c≠0)
 (hS:∀ w',Below w.heap.size w w'→Calls Tryz.prog 133 #[.string (str o.p), .string (str o.q)] w' fun e u=>e= .returned (.tuple #[.bool false, .int .i64 0])∧Below w'.heap.size w' u)
 (hP:∀ w',Below w.heap.size w w'→Calls Tryz.prog 94 #[.pointer (some ⟨g,0,none⟩), .string (str o.p), .int .i64 51] w' fun e u=>e= .returned (.tuple #[.agg (spC d a c).toArray, .int .i64 0])∧Below w'.heap.size w' u)
 (hQ:∀ w',Below w.heap.size w w'→Calls Tryz.prog 94 #[.pointer (some ⟨g,0,none⟩), .string (str o.q), .int .i64 51] w' fun e u=>e= .returned (.tuple #[.agg (spC f b k).toArray, .int .i64 0])∧Below w'.heap.size w' u):
 Calls Tryz.prog 106 #[.pointer (some ⟨g,0,none⟩), .agg (opC o s).toArray] w fun e w'=>e= .returned (.tuple #[.agg (spC d a c).toArray, .agg (spC f b k).toArray, .int .i64 0])∧Below w.heap.size w w':=by
 have qc:(c==0)=false:=by simpa using hc
 have tk1:True:=trivial
 have tk2:True:=trivial
 have tk3:True:=trivial
 have tk4:True:=trivial
 go_enter Tryz.func106,Tryz.ntmps106
 go_upto_region 14 with(first
  | (refine Z05 (by rfl) _ (by rfl) o s (by rfl) ?_;intro g1 w1 z1 z2 r1 b1
     have Bc:=b1
     have v1:=b1.size
     have c11:=r1.cell 1 _ rfl
     have c12:=r1.cell 2 _ rfl)
  | (refine Z08 (by rfl) (by rfl) ?_;clear tk1;intro ga wa zga yga ra bga
     replace Bc:=Z00q Bc bga (Nat.le_refl _)
     have vga:=bga.size
     try (replace r1:=r1.later bga)
     try clear c11 c12
     have c11:=r1.cell 1 _ rfl
     have c12:=r1.cell 2 _ rfl)
  | (refine Z08 (by rfl) (by rfl) ?_;clear tk2;intro gb wb zgb ygb rb bgb
     replace Bc:=Z00q Bc bgb (Nat.le_refl _)
     have vgb:=bgb.size
     try (replace r1:=r1.later bgb)
     try (replace ra:=ra.later bgb)
     try clear c11 c12
     have c11:=r1.cell 1 _ rfl
     have c12:=r1.cell 2 _ rfl)
  | (go_at_call 133;refine(hS _ Bc).mono ?_;rintro e ws1 ⟨rfl,bs1⟩;clear hS
     replace Bc:=Z00q Bc bs1 (Nat.le_refl _)
     have vs1:=bs1.size
     try (replace r1:=r1.later bs1)
     try (replace ra:=ra.later bs1)
     try (replace rb:=rb.later bs1)
     try clear c11 c12
     have c11:=r1.cell 1 _ rfl
     have c12:=r1.cell 2 _ rfl)
  | (go_at_call 94;refine(hP _ Bc).mono ?_;rintro e ws2 ⟨rfl,bs2⟩;clear hP
     replace Bc:=Z00q Bc bs2 (Nat.le_refl _)
     have vs2:=bs2.size
     try (replace r1:=r1.later bs2)
     try (replace ra:=ra.later bs2)
     try (replace rb:=rb.later bs2)
     try clear c11 c12
     have c11:=r1.cell 1 _ rfl
     have c12:=r1.cell 2 _ rfl)
  | (refine Z08 (by rfl) (by rfl) ?_;clear tk3;intro g3 wc zg3 yg3 r3 bg3
     replace Bc:=Z00q Bc bg3 (Nat.le_refl _)
     have vg3:=bg3.size
     try (replace r1:=r1.later bg3)
     try (replace ra:=ra.later bg3)
     try (replace rb:=rb.later bg3)
     try clear c11 c12
     have c11:=r1.cell 1 _ rfl
     have c12:=r1.cell 2 _ rfl)
  | (refine Z09 (by rfl) _ _ (by rfl) g3 (by rfl) d a c (by rfl) _ r3 rfl ?_;intro w5 q5 s5
     replace r3:=q5
     have v5:=s5.size
     replace Bc:=((Stp.of_below Bc (fun _=>False)).next s5 (fun y e=> .inr (by omega))).below (Nat.le_refl _) (fun y e=>e.elim)
     try (replace r1:=r1.step s5 (fun e=>by omega))
     try (replace ra:=ra.step s5 (fun e=>by omega))
     try (replace rb:=rb.step s5 (fun e=>by omega))
     try clear c11 c12
     have c11:=r1.cell 1 _ rfl
     have c12:=r1.cell 2 _ rfl
     have d2:=r3.cell 2 _ rfl)
  | (go_at_call 94;refine(hQ _ Bc).mono ?_;rintro e ws3 ⟨rfl,bs3⟩;clear hQ
     replace Bc:=Z00q Bc bs3 (Nat.le_refl _)
     have vs3:=bs3.size
     try (replace r1:=r1.later bs3)
     try (replace ra:=ra.later bs3)
     try (replace rb:=rb.later bs3)
     try (replace r3:=r3.later bs3)
     try clear c11 c12
     have c11:=r1.cell 1 _ rfl
     have c12:=r1.cell 2 _ rfl)
  | (refine Z08 (by rfl) (by rfl) ?_;clear tk4;intro g4 wd zg4 yg4 r4 bg4
     replace Bc:=Z00q Bc bg4 (Nat.le_refl _)
     have vg4:=bg4.size
     try (replace r1:=r1.later bg4)
     try (replace ra:=ra.later bg4)
     try (replace rb:=rb.later bg4)
     try (replace r3:=r3.later bg4)
     try clear c11 c12
     have c11:=r1.cell 1 _ rfl
     have c12:=r1.cell 2 _ rfl)
  | (refine Z09 (by rfl) _ _ (by rfl) g4 (by rfl) f b k (by rfl) _ r4 rfl ?_;intro w6 q6 s6
     replace r4:=q6
     have v6:=s6.size
     replace Bc:=((Stp.of_below Bc (fun _=>False)).next s6 (fun y e=> .inr (by omega))).below (Nat.le_refl _) (fun y e=>e.elim)
     try (replace r1:=r1.step s6 (fun e=>by omega))
     try (replace ra:=ra.step s6 (fun e=>by omega))
     try (replace rb:=rb.step s6 (fun e=>by omega))
     try (replace r3:=r3.step s6 (fun e=>by omega))
     try clear c11 c12
     have c11:=r1.cell 1 _ rfl
     have c12:=r1.cell 2 _ rfl)
  | (refine Z09 (by rfl) _ _ (by rfl) ga (by rfl) none [] 0 (by rfl) _ ra rfl ?_;intro w7 q7 s7
     replace ra:=q7
     have v7:=s7.size
     replace Bc:=((Stp.of_below Bc (fun _=>False)).next s7 (fun y e=> .inr (by omega))).below (Nat.le_refl _) (fun y e=>e.elim)
     try (replace r1:=r1.step s7 (fun e=>by omega))
     try (replace rb:=rb.step s7 (fun e=>by omega))
     try clear c11 c12
     have c11:=r1.cell 1 _ rfl
     have c12:=r1.cell 2 _ rfl)
  | (refine Z09 (by rfl) _ _ (by rfl) gb (by rfl) none [] 0 (by rfl) _ rb rfl ?_;intro w8 q8 s8
     replace rb:=q8
     have v8:=s8.size
     replace Bc:=((Stp.of_below Bc (fun _=>False)).next s8 (fun y e=> .inr (by omega))).below (Nat.le_refl _) (fun y e=>e.elim)
     try (replace r1:=r1.step s8 (fun e=>by omega))
     try (replace ra:=ra.step s8 (fun e=>by omega))
     try clear c11 c12
     have c11:=r1.cell 1 _ rfl
     have c12:=r1.cell 2 _ rfl))
 refine wp_region_held_drew (S:=fun u=>Stp (fun y=>y=ga∨y=gb) w6 u) (by kernel_rfl) (Stp.refl _ _).drew (fun hHeld=>?_)
 replace ra:=ra.later (show Below w6.heap.size w6 w6.drew from(Below.refl _ _).drew)
 replace rb:=rb.later (show Below w6.heap.size w6 w6.drew from(Below.refl _ _).drew)
 have n3:¬(g3=ga∨g3=gb):=by omega
 have n4:¬(g4=ga∨g4=gb):=by omega
 refine tm 0 (.agg (spC d a c).toArray) rfl
  (Z30 145 3 _ Z1g (by rfl) _ (by rfl) g3 (by rfl) _ rfl (fun u hu=>r3.step hu n3)) ?_
 try simp only [z]
 refine tm 1 (.agg (spC f b k).toArray) rfl
  (Z30 145 3 _ Z1g (by rfl) _ (by rfl) g4 (by rfl) _ rfl (fun u hu=>r4.step hu n4)) ?_
 try simp only [z]
 refine rd 2 rfl (fun K hK=>?_)
 refine Z3p rfl _ _ (by rfl) ga (by rfl) d a c (by rfl) _ ra rfl ?_
 intro w7 q7 s7
 have rb:=rb.step s7 (fun e=>by omega)
 refine hK.out _ _ (hHeld.next s7 (fun y e=> .inl (.inl e))) (fun hHeld=>?_)
 clear hK K
 try simp only [Act.put]
 refine rd 3 rfl (fun K hK=>?_)
 refine Z3p rfl _ _ (by rfl) gb (by rfl) f b k (by rfl) _ rb rfl ?_
 intro w8 q8 s8
 have q7:=q7.step s8 (fun e=>by omega)
 refine hK.out _ _ (hHeld.next s8 (fun y e=> .inl (.inr e))) (fun hHeld=>?_)
 clear hK K
 try simp only [Act.put]
 refine tl 4 (.int .i64 0) rfl ?_
 try simp only [z]
 refine wpAnyH_done (by kernel_rfl) ?_ _
 go_wp2_with fail
 have Bf:Below w.heap.size w w8:=((Stp.of_below Bc (fun _=>False)).next hHeld (fun y e=> .inr (by omega))).below (Nat.le_refl _) (fun y e=>e.elim)
 exact bodyPost_ret (Z3m Z1g Tryz.results106 rfl rfl rfl q7 rfl q8 rfl) rfl ⟨rfl,Bf⟩
set_option maxHeartbeats 8000000 in
theorem Zga {w:World} {g:Nat} {o:Oz} {s:Sv} {d f:Option Nat} {a b:List UInt8} {c k:Int} (hc:c≠0)
 (hS:∀ w',Below w.heap.size w w'→Calls Tryz.prog 133 #[.string (str o.p), .string (str o.q)] w' fun e u=>e= .returned (.tuple #[.bool true, .int .i64 0])∧Below w'.heap.size w' u)
 (hP:∀ w',Below w.heap.size w w'→Calls Tryz.prog 94 #[.pointer (some ⟨g,0,none⟩), .string (str o.p), .int .i64 51] w' fun e u=>e= .returned (.tuple #[.agg (spC d a c).toArray, .int .i64 0])∧Below w'.heap.size w' u)
 (hD:∀ w',Below w.heap.size w w'→Calls Tryz.prog 104 #[.pointer (some ⟨g,0,none⟩), .int .i64 c] w' fun e u=>e= .returned (.bool false)∧w'=u)
 (hQ:∀ w',Below w.heap.size w w'→Calls Tryz.prog 94 #[.pointer (some ⟨g,0,none⟩), .string (str o.q), .int .i64 51] w' fun e u=>e= .returned (.tuple #[.agg (spC f b k).toArray, .int .i64 0])∧Below w'.heap.size w' u):
 Calls Tryz.prog 106 #[.pointer (some ⟨g,0,none⟩), .agg (opC o s).toArray] w fun e w'=>e= .returned (.tuple #[.agg (spC d a c).toArray, .agg (spC f b k).toArray, .int .i64 0])∧Below w.heap.size w w':=by
 have qc:(c==0)=false:=by simpa using hc
 have tk1:True:=trivial
 have tk2:True:=trivial
 have tk3:True:=trivial
 have tk4:True:=trivial
 go_enter Tryz.func106,Tryz.ntmps106
 go_upto_region 14 with(first
  | (refine Z05 (by rfl) _ (by rfl) o s (by rfl) ?_;intro g1 w1 z1 z2 r1 b1
     have Bc:=b1
     have v1:=b1.size
     have c11:=r1.cell 1 _ rfl
     have c12:=r1.cell 2 _ rfl)
  | (refine Z08 (by rfl) (by rfl) ?_;clear tk1;intro ga wa zga yga ra bga
     replace Bc:=Z00q Bc bga (Nat.le_refl _)
     have vga:=bga.size
     try (replace r1:=r1.later bga)
     try clear c11 c12
     have c11:=r1.cell 1 _ rfl
     have c12:=r1.cell 2 _ rfl)
  | (refine Z08 (by rfl) (by rfl) ?_;clear tk2;intro gb wb zgb ygb rb bgb
     replace Bc:=Z00q Bc bgb (Nat.le_refl _)
     have vgb:=bgb.size
     try (replace r1:=r1.later bgb)
     try (replace ra:=ra.later bgb)
     try clear c11 c12
     have c11:=r1.cell 1 _ rfl
     have c12:=r1.cell 2 _ rfl)
  | (go_at_call 133;refine(hS _ Bc).mono ?_;rintro e ws1 ⟨rfl,bs1⟩;clear hS
     replace Bc:=Z00q Bc bs1 (Nat.le_refl _)
     have vs1:=bs1.size
     try (replace r1:=r1.later bs1)
     try (replace ra:=ra.later bs1)
     try (replace rb:=rb.later bs1)
     try clear c11 c12
     have c11:=r1.cell 1 _ rfl
     have c12:=r1.cell 2 _ rfl)
  | (go_at_call 94;refine(hP _ Bc).mono ?_;rintro e ws2 ⟨rfl,bs2⟩;clear hP
     replace Bc:=Z00q Bc bs2 (Nat.le_refl _)
     have vs2:=bs2.size
     try (replace r1:=r1.later bs2)
     try (replace ra:=ra.later bs2)
     try (replace rb:=rb.later bs2)
     try clear c11 c12
     have c11:=r1.cell 1 _ rfl
     have c12:=r1.cell 2 _ rfl)
  | (refine Z08 (by rfl) (by rfl) ?_;clear tk3;intro g3 wc zg3 yg3 r3 bg3
     replace Bc:=Z00q Bc bg3 (Nat.le_refl _)
     have vg3:=bg3.size
     try (replace r1:=r1.later bg3)
     try (replace ra:=ra.later bg3)
     try (replace rb:=rb.later bg3)
     try clear c11 c12
     have c11:=r1.cell 1 _ rfl
     have c12:=r1.cell 2 _ rfl)
  | (refine Z09 (by rfl) _ _ (by rfl) g3 (by rfl) d a c (by rfl) _ r3 rfl ?_;intro w5 q5 s5
     replace r3:=q5
     have v5:=s5.size
     replace Bc:=((Stp.of_below Bc (fun _=>False)).next s5 (fun y e=> .inr (by omega))).below (Nat.le_refl _) (fun y e=>e.elim)
     try (replace r1:=r1.step s5 (fun e=>by omega))
     try (replace ra:=ra.step s5 (fun e=>by omega))
     try (replace rb:=rb.step s5 (fun e=>by omega))
     try clear c11 c12
     have c11:=r1.cell 1 _ rfl
     have c12:=r1.cell 2 _ rfl
     have d2:=r3.cell 2 _ rfl)
  | (go_at_call 104;refine(hD _ Bc).mono ?_;rintro e u ⟨rfl,rfl⟩)
  | (go_at_call 94;refine(hQ _ Bc).mono ?_;rintro e ws3 ⟨rfl,bs3⟩;clear hQ
     replace Bc:=Z00q Bc bs3 (Nat.le_refl _)
     have vs3:=bs3.size
     try (replace r1:=r1.later bs3)
     try (replace ra:=ra.later bs3)
     try (replace rb:=rb.later bs3)
     try (replace r3:=r3.later bs3)
     try clear c11 c12
     have c11:=r1.cell 1 _ rfl
     have c12:=r1.cell 2 _ rfl)
  | (refine Z08 (by rfl) (by rfl) ?_;clear tk4;intro g4 wd zg4 yg4 r4 bg4
     replace Bc:=Z00q Bc bg4 (Nat.le_refl _)
     have vg4:=bg4.size
     try (replace r1:=r1.later bg4)
     try (replace ra:=ra.later bg4)
     try (replace rb:=rb.later bg4)
     try (replace r3:=r3.later bg4)
     try clear c11 c12
     have c11:=r1.cell 1 _ rfl
     have c12:=r1.cell 2 _ rfl)
  | (refine Z09 (by rfl) _ _ (by rfl) g4 (by rfl) f b k (by rfl) _ r4 rfl ?_;intro w6 q6 s6
     replace r4:=q6
     have v6:=s6.size
     replace Bc:=((Stp.of_below Bc (fun _=>False)).next s6 (fun y e=> .inr (by omega))).below (Nat.le_refl _) (fun y e=>e.elim)
     try (replace r1:=r1.step s6 (fun e=>by omega))
     try (replace ra:=ra.step s6 (fun e=>by omega))
     try (replace rb:=rb.step s6 (fun e=>by omega))
     try (replace r3:=r3.step s6 (fun e=>by omega))
     try clear c11 c12
     have c11:=r1.cell 1 _ rfl
     have c12:=r1.cell 2 _ rfl)
  | (refine Z09 (by rfl) _ _ (by rfl) ga (by rfl) none [] 0 (by rfl) _ ra rfl ?_;intro w7 q7 s7
     replace ra:=q7
     have v7:=s7.size
     replace Bc:=((Stp.of_below Bc (fun _=>False)).next s7 (fun y e=> .inr (by omega))).below (Nat.le_refl _) (fun y e=>e.elim)
     try (replace r1:=r1.step s7 (fun e=>by omega))
     try (replace rb:=rb.step s7 (fun e=>by omega))
     try clear c11 c12
     have c11:=r1.cell 1 _ rfl
     have c12:=r1.cell 2 _ rfl)
  | (refine Z09 (by rfl) _ _ (by rfl) gb (by rfl) none [] 0 (by rfl) _ rb rfl ?_;intro w8 q8 s8
     replace rb:=q8
     have v8:=s8.size
     replace Bc:=((Stp.of_below Bc (fun _=>False)).next s8 (fun y e=> .inr (by omega))).below (Nat.le_refl _) (fun y e=>e.elim)
     try (replace r1:=r1.step s8 (fun e=>by omega))
     try (replace ra:=ra.step s8 (fun e=>by omega))
     try clear c11 c12
     have c11:=r1.cell 1 _ rfl
     have c12:=r1.cell 2 _ rfl))
 refine wp_region_held_drew (S:=fun u=>Stp (fun y=>y=ga∨y=gb) w6 u) (by kernel_rfl) (Stp.refl _ _).drew (fun hHeld=>?_)
 replace ra:=ra.later (show Below w6.heap.size w6 w6.drew from(Below.refl _ _).drew)
 replace rb:=rb.later (show Below w6.heap.size w6 w6.drew from(Below.refl _ _).drew)
 have n3:¬(g3=ga∨g3=gb):=by omega
 have n4:¬(g4=ga∨g4=gb):=by omega
 refine tm 0 (.agg (spC d a c).toArray) rfl
  (Z30 145 3 _ Z1g (by rfl) _ (by rfl) g3 (by rfl) _ rfl (fun u hu=>r3.step hu n3)) ?_
 try simp only [z]
 refine tm 1 (.agg (spC f b k).toArray) rfl
  (Z30 145 3 _ Z1g (by rfl) _ (by rfl) g4 (by rfl) _ rfl (fun u hu=>r4.step hu n4)) ?_
 try simp only [z]
 refine rd 2 rfl (fun K hK=>?_)
 refine Z3p rfl _ _ (by rfl) ga (by rfl) d a c (by rfl) _ ra rfl ?_
 intro w7 q7 s7
 have rb:=rb.step s7 (fun e=>by omega)
 refine hK.out _ _ (hHeld.next s7 (fun y e=> .inl (.inl e))) (fun hHeld=>?_)
 clear hK K
 try simp only [Act.put]
 refine rd 3 rfl (fun K hK=>?_)
 refine Z3p rfl _ _ (by rfl) gb (by rfl) f b k (by rfl) _ rb rfl ?_
 intro w8 q8 s8
 have q7:=q7.step s8 (fun e=>by omega)
 refine hK.out _ _ (hHeld.next s8 (fun y e=> .inl (.inr e))) (fun hHeld=>?_)
 clear hK K
 try simp only [Act.put]
 refine tl 4 (.int .i64 0) rfl ?_
 try simp only [z]
 refine wpAnyH_done (by kernel_rfl) ?_ _
 go_wp2_with fail
 have Bf:Below w.heap.size w w8:=((Stp.of_below Bc (fun _=>False)).next hHeld (fun y e=> .inr (by omega))).below (Nat.le_refl _) (fun y e=>e.elim)
 exact bodyPost_ret (Z3m Z1g Tryz.results106 rfl rfl rfl q7 rfl q8 rfl) rfl ⟨rfl,Bf⟩
set_option maxRecDepth 100000
def enA (q:Int→Nat) (Z:Tz) (o:Oz):List Value:=if Z.reE2 o=0 then spC (some (q (Z.paD o.p))) (lsS o.p) (Z.paI o.p)else spC none [] 0
def enC (q:Int→Nat) (Z:Tz) (o:Oz):List Value:=if Z.reE2 o=0 then spC (some (q (Z.paD o.q))) (lsS o.q) (Z.paI o.q)else spC none [] 0
theorem Z49 {q:Int→Nat} {Z:Tz} {o:Oz} (h:Z.reE2 o≠0):enA q Z o=spC none [] 0:=if_neg h
theorem Z4a {q:Int→Nat} {Z:Tz} {o:Oz} (h:Z.reE2 o≠0):enC q Z o=spC none [] 0:=if_neg h
theorem Z92 {q:Int→Nat} {Z:Tz} {o:Oz} (h:Z.reE2 o=0):enA q Z o=spC (some (q (Z.paD o.p))) (lsS o.p) (Z.paI o.p):=if_pos h
theorem Z93 {q:Int→Nat} {Z:Tz} {o:Oz} (h:Z.reE2 o=0):enC q Z o=spC (some (q (Z.paD o.q))) (lsS o.q) (Z.paI o.q):=if_pos h
theorem Zc9 {w:World} {U:Nat→Prop} {g B m n:Nat} {q:Int→Nat} {Z:Tz} {x:Int→Int} (h:Tx w U g q B Z) (hz:Z.okD m n x) (hm:m≤1000) (o:Oz) (ho:o.wfo) (s:Sv):
 Calls Tryz.prog 106 #[.pointer (some ⟨g,0,none⟩), .agg (opC o s).toArray] w fun e w'=>e= .returned (.tuple #[.agg (enA q Z o).toArray, .agg (enC q Z o).toArray, .int .i64 (Z.reE2 o)])∧Below w.heap.size w w':=by
 have hS:=fun w' (b:Below w.heap.size w w')=>Zbj o.p o.q ho.p ho.q w'
 have hP:=fun w' (b:Below w.heap.size w w')=>Z1k (h.later b) hz hm o.p ho.p 51 (by decide)
 have hQ:=fun w' (b:Below w.heap.size w w')=>Z1k (h.later b) hz hm o.q ho.q 51 (by decide)
 have eS:siE o.p o.q=Z.reE1 o:=rfl
 by_cases h1:Z.reE1 o=0
 · have e1:Z.reE2 o=if Z.paE o.p 51=0 then(if Z.paI o.p=0 then 40 else if insB (spN o.p) (spN o.q)=true∧(Z.nd (Z.paI o.p)).k=2 then 49 else Z.paE o.q 51)else Z.paE o.p 51:=by unfold Tz.reE2;rw [if_pos h1]
   have eB:siB o.p o.q=insB (spN o.p) (spN o.q):=by unfold siB;rw [eS,if_pos h1]
   rw [eS,h1,eB]at hS
   by_cases h2:Z.paE o.p 51=0
   · rw [if_pos h2]at e1
     obtain⟨p1,p2,p3⟩:=Z1f hz (by decide) h2
     rw [Z1r h2,h2]at hP
     by_cases h3:Z.paI o.p=0
     · rw [if_pos h3]at e1
       rw [Z49 (by rw [e1];decide),Z4a (by rw [e1];decide),e1]
       rw [h3]at hP
       by_cases h5:Z.paE o.q 51=0
       · rw [Z1r h5]at hQ
         exact en_n (b:= []) (f:=none) hS hP
       · rw [Z1o h5]at hQ
         exact en_n (b:= []) (f:=none) hS hP
     · rw [if_neg h3]at e1
       rcases p3 with p3 | p3
       · exact absurd p3 h3
       have hD:=fun w' (b:Below w.heap.size w w')=>Z1u (h.later b) hz hm p3.2
       by_cases h4:insB (spN o.p) (spN o.q)=true∧(Z.nd (Z.paI o.p)).k=2
       · rw [if_pos h4]at e1
         rw [Z49 (by rw [e1];decide),Z4a (by rw [e1];decide),e1]
         rw [h4.1]at hS
         rw [h4.2,show decide ((2:Int)=2)=true from rfl]at hD
         by_cases h5:Z.paE o.q 51=0
         · rw [Z1r h5]at hQ
           exact en_i (b:= []) (f:=none) (k:=0) h3 hS hP hD
         · rw [Z1o h5]at hQ
           exact en_i (b:= []) (f:=none) (k:=0) h3 hS hP hD
       · rw [if_neg h4]at e1
         by_cases h5:Z.paE o.q 51=0
         · rw [h5]at e1
           rw [Z92 e1,Z93 e1,e1]
           rw [Z1r h5,h5]at hQ
           cases hb:insB (spN o.p) (spN o.q)with
           | false=>rw [hb]at hS;exact Zg9 h3 hS hP hQ
           | true=>
             rw [hb]at hS
             rw [decide_eq_false (fun e=>h4 ⟨hb,e⟩)]at hD
             exact Zga h3 hS hP hD hQ
         · rw [Z49 (by rw [e1];exact h5),Z4a (by rw [e1];exact h5),e1]
           rw [Z1o h5]at hQ
           cases hb:insB (spN o.p) (spN o.q)with
           | false=>rw [hb]at hS;exact Zg7 h3 h5 hS hP hQ
           | true=>
             rw [hb]at hS
             rw [decide_eq_false (fun e=>h4 ⟨hb,e⟩)]at hD
             exact Zg8 h3 h5 hS hP hD hQ
   · rw [if_neg h2]at e1
     rw [Z49 (by rw [e1];exact h2),Z4a (by rw [e1];exact h2),e1]
     rw [Z1o h2]at hP
     by_cases h5:Z.paE o.q 51=0
     · rw [Z1r h5]at hQ
       exact en_p (b:= []) (f:=none) (k:=0) h2 hS hP
     · rw [Z1o h5]at hQ
       exact en_p (b:= []) (f:=none) (k:=0) h2 hS hP
 · have e1:Z.reE2 o=Z.reE1 o:=by unfold Tz.reE2;rw [if_neg h1]
   rw [Z49 (by rw [e1];exact h1),Z4a (by rw [e1];exact h1),e1]
   rw [eS]at hS
   by_cases h2:Z.paE o.p 51=0
   · rw [Z1r h2]at hP
     by_cases h5:Z.paE o.q 51=0
     · rw [Z1r h5]at hQ
       exact en_s (bI:=siB o.p o.q) (a:= []) (b:= []) (d:=none) (f:=none) (c:=0) (k:=0) h1 hS
     · rw [Z1o h5]at hQ
       exact en_s (bI:=siB o.p o.q) (a:= []) (b:= []) (d:=none) (f:=none) (c:=0) (k:=0) h1 hS
   · rw [Z1o h2]at hP
     by_cases h5:Z.paE o.q 51=0
     · rw [Z1r h5]at hQ
       exact en_s (bI:=siB o.p o.q) (a:= []) (b:= []) (d:=none) (f:=none) (c:=0) (k:=0) h1 hS
     · rw [Z1o h5]at hQ
       exact en_s (bI:=siB o.p o.q) (a:= []) (b:= []) (d:=none) (f:=none) (c:=0) (k:=0) h1 hS
set_option maxRecDepth 100000
theorem MpT.len {w:World} {b n:Nat} {l:List Ent} (h:MpT w b n l) (hl:Srd l) (h0:∀ e ∈ l,e.n≠0) (ty:TypeId):(Builtin.len_ #[71] ty #[.map (some b)]).run Tryz.prog w= .ok (.int .i64 (l.length:Int)) w:=by
 obtain⟨D,h1,hp⟩:=h.keys hl h0
 rw [h1.len uMt ty]
 have:=hp.length_eq
 obtain⟨es,clock,hb,Ft,hs,hD⟩:=h1
 subst hD
 unfold strKeys at this
 simp only [List.length_map]at this
 rw [this];rfl
theorem Z5s {ops:Array Oper} {o:Oper} {a:Act} {S:World→Prop} (hw:Region.wanted o (yielded ops a.tmps)=true) (m:Operand) (ho:o.op= .call { callee:= .builtin .len,args:=#[m],argTypes:=#[71]}) (b n:Nat) (l:List Ent) (hm:a.eval m= .map (some b)) (hS:∀ w,S w→MpT w b n l) (hl:Srd l) (h0:∀ e ∈ l,e.n≠0):
 YieldsIf Tryz.prog ops S o (.int .i64 (l.length:Int)) a:=by
 refine Or.inl ⟨hw,fun w hs=>?_⟩
 simp [execOp,ho,resolve,invoke,builtin,hm,(hS w hs).len hl h0 o.type,Result.andThen]
theorem Z76 {w:World} {U:Nat→Prop} {g B n:Nat} {q:Int→Nat} {Z:Tz} (h:Tx w U g q B Z) (hz:Z.ok n) (hn:n≤900) (hB:B≤900) (o:Oz) (ho:o.wfo) (s:Sv):
 Calls Tryz.prog 59 #[.pointer (some ⟨g,0,none⟩), .agg (opC o s).toArray] w fun e w'=>Ret e U g B Z (Z.unS o) (Z.rmE o) w w':=by
 have hm:n+2≤1000:=by omega
 have hU:=h.low
 have hP:=fun w' (b:Below w.heap.size w w')=>Z1k (h.later b) hz hm o.p ho.p 51 (by decide)
 by_cases h1:Z.paE o.p 51=0
 · obtain⟨p1,p2,p3⟩:=Z1f hz (by decide) h1
   rw [Z1r h1,h1]at hP
   by_cases h2:Z.paI o.p=0
   · have eE:Z.rmE o=40:=by unfold Tz.rmE;rw [if_pos h1,if_pos h2]
     rw [eE]
     rw [h2]at hP
     clear eE
     go_enter Tryz.func59,Tryz.ntmps59
     go_wp2_with (first
      | (refine Z05 (by rfl) _ (by rfl) o s (by rfl) ?_;intro g1 w1 z1 z2 r1 b1
         have c10:=r1.cell 0 _ rfl
         have c11:=r1.cell 1 _ rfl
         have c12:=r1.cell 2 _ rfl
         have c13:=r1.cell 3 _ rfl
         have c14:=r1.cell 4 _ rfl
         have c15:=r1.cell 5 _ rfl
         have c16:=r1.cell 6 _ rfl)
      | (refine Z02 (by rfl) (by rfl) ?_;intro g2 w2 z3 z4 r2 b2
         have B2:=Z00q b1 b2 (Nat.le_refl _)
         have r12:=r1.later b2
         clear c10 c11 c12 c13 c14 c15 c16
         have c10:=r12.cell 0 _ rfl
         have c11:=r12.cell 1 _ rfl
         have c12:=r12.cell 2 _ rfl
         have c13:=r12.cell 3 _ rfl
         have c14:=r12.cell 4 _ rfl
         have c15:=r12.cell 5 _ rfl
         have c16:=r12.cell 6 _ rfl)
      | (go_at_call 94;refine(hP _ B2).mono ?_;rintro e w3 ⟨rfl,b3⟩;clear hP
         have B3:=Z00q B2 b3 (Nat.le_refl _)
         have zz3:=B3.size)
      | (refine Z08 (by rfl) (by rfl) ?_;intro g3 w4 z5 z6 r4 b4
         have B4:=Z00q B3 b4 (Nat.le_refl _))
      | (refine Z09 (by rfl) _ _ (by rfl) g3 (by rfl) (some (q (Z.paD o.p))) (lsS o.p) 0 (by rfl) _ r4 rfl ?_;intro w5 r5 s5
         have B5:Below w.heap.size w w5:=((Stp.of_below B4 (fun _=>False)).next s5 (fun y e=> .inr (by omega))).below (Nat.le_refl _) (fun y e=>e.elim)
         have d2:=r5.cell 2 _ rfl
         have r25:Cs w5 g2 anZ:=((r2.later b3).later b4).step s5 (fun e=>by have:=b3.size;omega)
         have gl3:=r5.lt)
      | (refine Z03 (by rfl) _ _ (by rfl) g2 (by rfl) anZ 0 Z0c (by rfl) _ r25 rfl ?_;intro w9 r9 s9))
     exact bodyPost_ret (Z0d Z06 Tryz.results59 rfl rfl r9 rfl) rfl (Z0q (by decide) (TxG.same h B5 (by omega) s9))
   · have hk:(Z.nd (Z.paI o.p)).k≠0:=by
      rcases p3 with p3 | p3
      · exact absurd p3 h2
      · exact p3.2
     have hi2:2≤Z.paI o.p:=by
      rcases p3 with p3 | p3
      · exact absurd p3 h2
      · exact p3.1
     have hD:=fun w' (b:Below w.heap.size w w')=>Z1u (h.later b) hz hm hk
     by_cases h3:(Z.nd (Z.paI o.p)).k=2
     · rw [h3]at hD
       by_cases h4:(Z.nd (Z.paI o.p)).nm= []
       · have eE:Z.rmE o=0:=by unfold Tz.rmE;rw [if_pos h1,if_neg h2,if_pos h3,if_pos h4]
         rw [eE]
         clear eE
         have hN:=fun w' (b:Below w.heap.size w w')=>Z3b (h.later b) hz hm Z2l p1 (lsS o.p) rfl hi2 (Z3i p2).2.2
         change ∀ w' (b:Below w.heap.size w w'),Calls Tryz.prog _ #[_, .agg (spC _ _ (Z.paI o.p)).toArray] _ _ at hN
         have hl0:((Z.nd (Z.paI o.p)).nm.length:Int)=0:=by rw [h4];rfl
         go_enter Tryz.func59,Tryz.ntmps59
         go_wp2_with (first
       | (refine Z05 (by rfl) _ (by rfl) o s (by rfl) ?_;intro g1 w1 z1 z2 r1 b1
          have c10:=r1.cell 0 _ rfl
          have c11:=r1.cell 1 _ rfl
          have c12:=r1.cell 2 _ rfl
          have c13:=r1.cell 3 _ rfl
          have c14:=r1.cell 4 _ rfl
          have c15:=r1.cell 5 _ rfl
          have c16:=r1.cell 6 _ rfl)
       | (refine Z02 (by rfl) (by rfl) ?_;intro g2 w2 z3 z4 r2 b2
          have B2:=Z00q b1 b2 (Nat.le_refl _)
          have r12:=r1.later b2
          clear c10 c11 c12 c13 c14 c15 c16
          have c10:=r12.cell 0 _ rfl
          have c11:=r12.cell 1 _ rfl
          have c12:=r12.cell 2 _ rfl
          have c13:=r12.cell 3 _ rfl
          have c14:=r12.cell 4 _ rfl
          have c15:=r12.cell 5 _ rfl
          have c16:=r12.cell 6 _ rfl)
       | (go_at_call 94;refine(hP _ B2).mono ?_;rintro e w3 ⟨rfl,b3⟩;clear hP
          have B3:=Z00q B2 b3 (Nat.le_refl _)
          have zz3:=B3.size)
       | (refine Z08 (by rfl) (by rfl) ?_;intro g3 w4 z5 z6 r4 b4
          have B4:=Z00q B3 b4 (Nat.le_refl _))
       | (refine Z09 (by rfl) _ _ (by rfl) g3 (by rfl) (some (q (Z.paD o.p))) (lsS o.p) (Z.paI o.p) (by rfl) _ r4 rfl ?_;intro w5 r5 s5
          have B5:Below w.heap.size w w5:=((Stp.of_below B4 (fun _=>False)).next s5 (fun y e=> .inr (by omega))).below (Nat.le_refl _) (fun y e=>e.elim)
          have d2:=r5.cell 2 _ rfl
          have r25:Cs w5 g2 anZ:=((r2.later b3).later b4).step s5 (fun e=>by have:=b3.size;omega)
          have gl3:=r5.lt)
       | (go_at_call 104;refine(hD _ B5).mono ?_;rintro e u ⟨rfl,rfl⟩))
         obtain⟨tg,mb,ob,nb,sv,H5,hU5⟩:=h.later B5
         refine wp_region_held_drew (S:=fun u=>Below w5.heap.size w5 u) (by kernel_rfl) (Below.refl _ _).drew (fun hHeld=>?_)
         refine tl 0 (.pointer (some ⟨g,0,none⟩)) rfl ?_
         try simp only [z]
         refine tl 1 (.pointer (some ⟨g,0,none⟩)) rfl ?_
         try simp only [z]
         refine tl 2 (.pointer (some ⟨g,0,none⟩)) rfl ?_
         try simp only [z]
         refine tl 3 (.map (some mb)) rfl ?_ (fun u hu=>by have x1:=(H5.later hu).c0;go_simp)
         try simp only [z]
         refine tl 4 (.pointer (some ⟨g3,2,none⟩)) rfl ?_
         try simp only [z]
         refine tl 5 (.int .i64 (Z.paI o.p)) rfl ?_ (fun u hu=>by have x1:=(r5.later hu).cell 2 _ rfl;go_simp)
         try simp only [z]
         refine tl 6 (.pointer (some ⟨q (Z.paI o.p),0,none⟩)) rfl ?_ (fun u hu=>by have x1:=(H5.later hu).look hk (Z13 hz hm hk);go_simp)
         try simp only [z]
         refine tl 7 (.pointer (some ⟨q (Z.paI o.p),0,none⟩)) rfl ?_
         try simp only [z]
         refine tl 8 (.pointer (some ⟨q (Z.paI o.p),3,none⟩)) rfl ?_
         try simp only [z]
         refine tl 9 (.map (some (nb (Z.paI o.p)))) rfl ?_ (fun u hu=>by have x1:=(H5.later hu).n3 h3;go_simp)
         try simp only [z]
         refine tm 10 (.int .i64 ((Z.nd (Z.paI o.p)).nm.length:Int)) rfl
          (Z5s (by rfl) _ (by rfl) (nb (Z.paI o.p)) B (Z.nd (Z.paI o.p)).nm (by rfl) (fun u hu=>((H5.later hu).nm _ h3).2) (hz.so _) (fun e he=>by have:=(hz.nw _ e he).2.1;omega)) ?_
         try simp only [z]
         refine tl 11 (.bool (decide (0 < ((Z.nd (Z.paI o.p)).nm.length:Int)))) rfl ?_
         try simp only [z]
         refine tl 12 (.bool (decide (0 < ((Z.nd (Z.paI o.p)).nm.length:Int)))) rfl ?_
         try simp only [z]
         refine wpAnyH_done (by kernel_rfl) ?_ _
         have B6:=Z00q B5 hHeld (Nat.le_refl _)
         have r26':=r25.later hHeld
         have r36:=r5.later hHeld
         rw [hl0]at *
         generalize w5.drew=w6 at *
         go_wp2_with (first
       | (refine Z2f (by rfl) _ (by rfl) g3 (by rfl) (some (q (Z.paD o.p))) (lsS o.p) (Z.paI o.p) r36 ?_)
       | (go_at_call 105;refine(hN _ B6).mono ?_;rintro e w7 ⟨rfl,G6⟩
          have nU2:¬U g2:=fun e=>by have:=hU g2 e;have:=b1.size;omega
          have r27:=r26'.step G6.stp nU2)
       | (refine Z03 (by rfl) _ _ (by rfl) g2 (by rfl) anZ 0 Z0c (by rfl) _ r27 rfl ?_;intro w9 r9 s9))
         exact bodyPost_ret (Z0d Z06 Tryz.results59 rfl rfl r9 rfl) rfl (Z16 Z0c ((TxG.fin hU B6 G6 (by omega) r26'.lt s9).more (Nat.le_succ B)))
       · have eE:Z.rmE o=44:=by unfold Tz.rmE;rw [if_pos h1,if_neg h2,if_pos h3,if_neg h4]
         rw [eE]
         clear eE
         have hl0:0 < ((Z.nd (Z.paI o.p)).nm.length:Int):=by have:=List.length_pos_iff.2 h4;omega
         go_enter Tryz.func59,Tryz.ntmps59
         go_wp2_with (first
       | (refine Z05 (by rfl) _ (by rfl) o s (by rfl) ?_;intro g1 w1 z1 z2 r1 b1
          have c10:=r1.cell 0 _ rfl
          have c11:=r1.cell 1 _ rfl
          have c12:=r1.cell 2 _ rfl
          have c13:=r1.cell 3 _ rfl
          have c14:=r1.cell 4 _ rfl
          have c15:=r1.cell 5 _ rfl
          have c16:=r1.cell 6 _ rfl)
       | (refine Z02 (by rfl) (by rfl) ?_;intro g2 w2 z3 z4 r2 b2
          have B2:=Z00q b1 b2 (Nat.le_refl _)
          have r12:=r1.later b2
          clear c10 c11 c12 c13 c14 c15 c16
          have c10:=r12.cell 0 _ rfl
          have c11:=r12.cell 1 _ rfl
          have c12:=r12.cell 2 _ rfl
          have c13:=r12.cell 3 _ rfl
          have c14:=r12.cell 4 _ rfl
          have c15:=r12.cell 5 _ rfl
          have c16:=r12.cell 6 _ rfl)
       | (go_at_call 94;refine(hP _ B2).mono ?_;rintro e w3 ⟨rfl,b3⟩;clear hP
          have B3:=Z00q B2 b3 (Nat.le_refl _)
          have zz3:=B3.size)
       | (refine Z08 (by rfl) (by rfl) ?_;intro g3 w4 z5 z6 r4 b4
          have B4:=Z00q B3 b4 (Nat.le_refl _))
       | (refine Z09 (by rfl) _ _ (by rfl) g3 (by rfl) (some (q (Z.paD o.p))) (lsS o.p) (Z.paI o.p) (by rfl) _ r4 rfl ?_;intro w5 r5 s5
          have B5:Below w.heap.size w w5:=((Stp.of_below B4 (fun _=>False)).next s5 (fun y e=> .inr (by omega))).below (Nat.le_refl _) (fun y e=>e.elim)
          have d2:=r5.cell 2 _ rfl
          have r25:Cs w5 g2 anZ:=((r2.later b3).later b4).step s5 (fun e=>by have:=b3.size;omega)
          have gl3:=r5.lt)
       | (go_at_call 104;refine(hD _ B5).mono ?_;rintro e u ⟨rfl,rfl⟩))
         obtain⟨tg,mb,ob,nb,sv,H5,hU5⟩:=h.later B5
         refine wp_region_held_drew (S:=fun u=>Below w5.heap.size w5 u) (by kernel_rfl) (Below.refl _ _).drew (fun hHeld=>?_)
         refine tl 0 (.pointer (some ⟨g,0,none⟩)) rfl ?_
         try simp only [z]
         refine tl 1 (.pointer (some ⟨g,0,none⟩)) rfl ?_
         try simp only [z]
         refine tl 2 (.pointer (some ⟨g,0,none⟩)) rfl ?_
         try simp only [z]
         refine tl 3 (.map (some mb)) rfl ?_ (fun u hu=>by have x1:=(H5.later hu).c0;go_simp)
         try simp only [z]
         refine tl 4 (.pointer (some ⟨g3,2,none⟩)) rfl ?_
         try simp only [z]
         refine tl 5 (.int .i64 (Z.paI o.p)) rfl ?_ (fun u hu=>by have x1:=(r5.later hu).cell 2 _ rfl;go_simp)
         try simp only [z]
         refine tl 6 (.pointer (some ⟨q (Z.paI o.p),0,none⟩)) rfl ?_ (fun u hu=>by have x1:=(H5.later hu).look hk (Z13 hz hm hk);go_simp)
         try simp only [z]
         refine tl 7 (.pointer (some ⟨q (Z.paI o.p),0,none⟩)) rfl ?_
         try simp only [z]
         refine tl 8 (.pointer (some ⟨q (Z.paI o.p),3,none⟩)) rfl ?_
         try simp only [z]
         refine tl 9 (.map (some (nb (Z.paI o.p)))) rfl ?_ (fun u hu=>by have x1:=(H5.later hu).n3 h3;go_simp)
         try simp only [z]
         refine tm 10 (.int .i64 ((Z.nd (Z.paI o.p)).nm.length:Int)) rfl
          (Z5s (by rfl) _ (by rfl) (nb (Z.paI o.p)) B (Z.nd (Z.paI o.p)).nm (by rfl) (fun u hu=>((H5.later hu).nm _ h3).2) (hz.so _) (fun e he=>by have:=(hz.nw _ e he).2.1;omega)) ?_
         try simp only [z]
         refine tl 11 (.bool (decide (0 < ((Z.nd (Z.paI o.p)).nm.length:Int)))) rfl ?_
         try simp only [z]
         refine tl 12 (.bool (decide (0 < ((Z.nd (Z.paI o.p)).nm.length:Int)))) rfl ?_
         try simp only [z]
         refine wpAnyH_done (by kernel_rfl) ?_ _
         have B6:=Z00q B5 hHeld (Nat.le_refl _)
         have r26':=r25.later hHeld
         have r36:=r5.later hHeld
         generalize w5.drew=w6 at *
         go_wp2_with (first
       | (refine Z03 (by rfl) _ _ (by rfl) g2 (by rfl) anZ 0 Z0c (by rfl) _ r26' rfl ?_;intro w9 r9 s9))
         exact bodyPost_ret (Z0d Z06 Tryz.results59 rfl rfl r9 rfl) rfl (Z0q (by decide) (TxG.same h B6 (by omega) s9))
     · have eE:Z.rmE o=42:=by unfold Tz.rmE;rw [if_pos h1,if_neg h2,if_neg h3]
       rw [eE]
       rw [decide_eq_false h3]at hD
       clear eE
       go_enter Tryz.func59,Tryz.ntmps59
       go_wp2_with (first
       | (refine Z05 (by rfl) _ (by rfl) o s (by rfl) ?_;intro g1 w1 z1 z2 r1 b1
          have c10:=r1.cell 0 _ rfl
          have c11:=r1.cell 1 _ rfl
          have c12:=r1.cell 2 _ rfl
          have c13:=r1.cell 3 _ rfl
          have c14:=r1.cell 4 _ rfl
          have c15:=r1.cell 5 _ rfl
          have c16:=r1.cell 6 _ rfl)
       | (refine Z02 (by rfl) (by rfl) ?_;intro g2 w2 z3 z4 r2 b2
          have B2:=Z00q b1 b2 (Nat.le_refl _)
          have r12:=r1.later b2
          clear c10 c11 c12 c13 c14 c15 c16
          have c10:=r12.cell 0 _ rfl
          have c11:=r12.cell 1 _ rfl
          have c12:=r12.cell 2 _ rfl
          have c13:=r12.cell 3 _ rfl
          have c14:=r12.cell 4 _ rfl
          have c15:=r12.cell 5 _ rfl
          have c16:=r12.cell 6 _ rfl)
       | (go_at_call 94;refine(hP _ B2).mono ?_;rintro e w3 ⟨rfl,b3⟩;clear hP
          have B3:=Z00q B2 b3 (Nat.le_refl _)
          have zz3:=B3.size)
       | (refine Z08 (by rfl) (by rfl) ?_;intro g3 w4 z5 z6 r4 b4
          have B4:=Z00q B3 b4 (Nat.le_refl _))
       | (refine Z09 (by rfl) _ _ (by rfl) g3 (by rfl) (some (q (Z.paD o.p))) (lsS o.p) (Z.paI o.p) (by rfl) _ r4 rfl ?_;intro w5 r5 s5
          have B5:Below w.heap.size w w5:=((Stp.of_below B4 (fun _=>False)).next s5 (fun y e=> .inr (by omega))).below (Nat.le_refl _) (fun y e=>e.elim)
          have d2:=r5.cell 2 _ rfl
          have r25:Cs w5 g2 anZ:=((r2.later b3).later b4).step s5 (fun e=>by have:=b3.size;omega)
          have gl3:=r5.lt)
       | (go_at_call 104;refine(hD _ B5).mono ?_;rintro e u ⟨rfl,rfl⟩)
       | (refine Z03 (by rfl) _ _ (by rfl) g2 (by rfl) anZ 0 Z0c (by rfl) _ r25 rfl ?_;intro w9 r9 s9))
       exact bodyPost_ret (Z0d Z06 Tryz.results59 rfl rfl r9 rfl) rfl (Z0q (by decide) (TxG.same h B5 (by omega) s9))
 · have eE:Z.rmE o=Z.paE o.p 51:=by unfold Tz.rmE;rw [if_neg h1]
   rw [Z1o h1]at hP
   rw [eE]
   clear eE
   go_enter Tryz.func59,Tryz.ntmps59
   go_wp2_with (first
    | (refine Z05 (by rfl) _ (by rfl) o s (by rfl) ?_;intro g1 w1 z1 z2 r1 b1
       have c10:=r1.cell 0 _ rfl
       have c11:=r1.cell 1 _ rfl
       have c12:=r1.cell 2 _ rfl
       have c13:=r1.cell 3 _ rfl
       have c14:=r1.cell 4 _ rfl
       have c15:=r1.cell 5 _ rfl
       have c16:=r1.cell 6 _ rfl)
    | (refine Z02 (by rfl) (by rfl) ?_;intro g2 w2 z3 z4 r2 b2
       have B2:=Z00q b1 b2 (Nat.le_refl _)
       have r12:=r1.later b2
       clear c10 c11 c12 c13 c14 c15 c16
       have c10:=r12.cell 0 _ rfl
       have c11:=r12.cell 1 _ rfl
       have c12:=r12.cell 2 _ rfl
       have c13:=r12.cell 3 _ rfl
       have c14:=r12.cell 4 _ rfl
       have c15:=r12.cell 5 _ rfl
       have c16:=r12.cell 6 _ rfl)
    | (go_at_call 94;refine(hP _ B2).mono ?_;rintro e w3 ⟨rfl,b3⟩;clear hP
       have B3:=Z00q B2 b3 (Nat.le_refl _)
       have zz3:=B3.size)
    | (refine Z08 (by rfl) (by rfl) ?_;intro g3 w4 z5 z6 r4 b4
       have B4:=Z00q B3 b4 (Nat.le_refl _))
    | (refine Z09 (by rfl) _ _ (by rfl) g3 (by rfl) none [] 0 (by rfl) _ r4 rfl ?_;intro w5 r5 s5
       have B5:Below w.heap.size w w5:=((Stp.of_below B4 (fun _=>False)).next s5 (fun y e=> .inr (by omega))).below (Nat.le_refl _) (fun y e=>e.elim)
       have d2:=r5.cell 2 _ rfl
       have r25:Cs w5 g2 anZ:=((r2.later b3).later b4).step s5 (fun e=>by have:=b3.size;omega)
       have gl3:=r5.lt)
    | (refine Z03 (by rfl) _ _ (by rfl) g2 (by rfl) anZ 0 Z0c (by rfl) _ r25 rfl ?_;intro w9 r9 s9))
   exact bodyPost_ret (Z0d Z06 Tryz.results59 rfl rfl r9 rfl) rfl (Z0q h1 (TxG.same h B5 (by omega) s9))
end Go.Proofs.YtdnjddpfcgginaaGreat
