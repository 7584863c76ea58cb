/-
  Texts of my own, joined: no statement is proved here.
-/
import Derived.Deep.CutBlock
import Derived.Deep.DeepCutAuto
import Derived.Test.YtdnjddpfcgginaaGreatKbg
set_option linter.unusedSimpArgs false
set_option linter.unusedVariables false
namespace Go.Proofs.YtdnjddpfcgginaaGreat
open Go.ChangeShapes Go.WideShapes Go.ChangeAt Go.RowKit
set_option maxRecDepth 100000
theorem Z0m (f:Int):flOk f=true↔¬(f < 0∨31 < f∨f % 4=0∨(f / 8 % 2=1∧f / 4 % 2=0)∨(f / 16 % 2=1∧f / 2 % 2=0)):=by
 unfold flOk
 simp only [Bool.not_eq_true',Bool.or_eq_false_iff,Bool.and_eq_false_iff,decide_eq_false_iff_not]
 omega
theorem Z0s {b c:Bool} (e:b=true↔¬c=true):b= !c:=by
 cases b<;>cases c<;>simp at e ⊢
theorem OwV.sl {w:World} {v:Value} {l:List Int} (h:OwV w v l):∃ a c,v= .slice a l.length c:=by
 rcases h.row with⟨rfl,rfl⟩ | ⟨g,cap,cur,rfl,_⟩
 · exact⟨_,_,rfl⟩
 · exact⟨_,_,rfl⟩
theorem Z5o {w:World} {y:Nat} {t:FT} (h:Rd w y t):Calls Tryz.prog 19 #[.pointer (some ⟨y,0,none⟩)] w fun e w'=>(∃ a c,e= .returned (.slice a (fdUs t 8).length c))∧Below w.heap.size w w':=by
 refine(Z6c h).mono ?_
 rintro e w' ⟨v,rfl,h1,_,h3⟩
 obtain⟨a,c,rfl⟩:=h1.sl
 exact⟨⟨a,c,rfl⟩,h3⟩
theorem Dw.tab {w w':World} {y fb r c:Nat} {A:Nat→Prop} {F:Nat→Value} {sd sn:Nat→Sv} {Z:Tz} (h:Dw w y fb r c A F sd sn Z) {t:FT} (hR:Rd w' fb t) (k:Stp (fun z=>z=fb) w w'):Dw w' y fb r c A F sd sn (Z.fds t):=by
 have g4:∀ x,A x→¬x=fb:=fun x hx=>(h.nA x hx).2.1
 exact⟨h.tr.step k h.n1,h.row.step k (fun e=>h.n3 e.symm),hR,h.n1,h.n2,h.n3,fun x hx=>by obtain⟨q1,q2,q3,q4⟩:=h.nA x hx;exact⟨q1,q2,q3,Nat.lt_of_lt_of_le q4 k.size⟩,h.cel,fun i hi=>⟨(h.dt i hi).1.step k (h.dt i hi).2 g4,(h.dt i hi).2⟩,fun i hi=>⟨(h.nm i hi).1.step k (h.nm i hi).2 g4,(h.nm i hi).2⟩⟩
set_option maxHeartbeats 8000000 in
theorem ro_f {w:World} {U:Nat→Prop} {y n:Nat} {Z:Tz} (h:Dx w U y Z) (hz:Z.ok n) (hn:n≤900) (o:Oz) (s:Sv) (ho:o.wfo) (hfl:flOk o.fl=false)  :
 Calls Tryz.prog 29 #[.pointer (some ⟨y,0,none⟩), .agg (opC o s).toArray] w fun e w'=>RetY e U y Z 2 w w':=by
 have hwf:=Z28 ho.fl
 have hU:=h.low
 go_enter Tryz.func29,Tryz.ntmps29
 go_upto_region 2 with(first
  | (refine Z05 (by rfl) _ (by rfl) o s (by rfl) ?_;intro g1 w1 z1 z2 r1 b1
     have Bc:=b1
     have v1:=b1.size
     try clear c11
     try clear c16
     have c11:=r1.cell 1 _ rfl
     have c16:=r1.cell 6 _ rfl)
  | (refine Z02 (by rfl) (by rfl) ?_;intro g2 w2 z3 z4 r2 b2
     replace Bc:=Z00q Bc b2 (Nat.le_refl _)
     have v2:=b2.size
     try (replace r1:=r1.later b2)
     try (replace r2:=r2.later b2)
     try clear c11
     try clear c16
     have c11:=r1.cell 1 _ rfl
     have c16:=r1.cell 6 _ rfl))
 go_cut [48] (fun u wx=>u= .bool (!flOk o.fl)∧wx=w2)
 case first=>
  clear hfl
  by_cases h1:o.fl < 0
  · go_wp2_with fail
    all_goals
     go_meet
     refine⟨congrArg Value.bool (Z0s ?_),rfl⟩
     rw [Z0m]
     simp
     try omega
  by_cases h2:31 < o.fl
  · go_wp2_with fail
    all_goals
     go_meet
     refine⟨congrArg Value.bool (Z0s ?_),rfl⟩
     rw [Z0m]
     simp
     try omega
  have h3:0≤o.fl:=by omega
  by_cases h4:o.fl % 4=0
  · go_wp2_with fail
    all_goals
     go_meet
     refine⟨congrArg Value.bool (Z0s ?_),rfl⟩
     rw [Z0m]
     simp
     try omega
  · go_wp2_with fail
    all_goals
     go_meet
     refine⟨congrArg Value.bool (Z0s ?_),rfl⟩
     rw [Z0m]
     simp
     try omega
 case rest=>
  obtain⟨rfl,e0⟩:=hcut
  subst wc
  rw [hfl,show(!false)=true from rfl]
  go_wp2_with (first
   | (go_at_call 35;refine(Z0b _ _).mono ?_;rintro e wf ⟨rfl,bf⟩
      replace Bc:=Z00q Bc bf (Nat.le_refl _)
      replace r2:=r2.later bf)
   | (refine Z03 (by rfl) _ _ (by rfl) g2 (by rfl) (anC 2 0 nilV nilV 0 0 0) 2 (Z07 2) (by rfl) _ r2 rfl ?_;intro w9 r9 s9))
  exact bodyPost_ret (Z0a Z06 Tryz.results29 rfl r9 rfl) rfl ⟨anC 2 0 nilV nilV 0 0 0,rfl,Z07 2,Z0e h Bc (by omega) s9⟩
set_option maxHeartbeats 8000000 in
theorem ro_p {w:World} {U:Nat→Prop} {y n:Nat} {Z:Tz} (h:Dx w U y Z) (hz:Z.ok n) (hn:n≤900) (o:Oz) (s:Sv) (ho:o.wfo) (hfl:flOk o.fl=true) {E:Int} (hE:E≠0)
 (hP:∀ w',Below w.heap.size w w'→Calls Tryz.prog 66 #[.pointer (some ⟨y,0,none⟩), .string (str o.p), .int .i64 43] w' fun e u=>(∃ d t,e= .returned (.tuple #[.int .i64 d, .string t, .int .i64 E]))∧Below w'.heap.size w' u):
 Calls Tryz.prog 29 #[.pointer (some ⟨y,0,none⟩), .agg (opC o s).toArray] w fun e w'=>RetY e U y Z E w w':=by
 have hwf:=Z28 ho.fl
 have hU:=h.low
 go_enter Tryz.func29,Tryz.ntmps29
 go_upto_region 2 with(first
  | (refine Z05 (by rfl) _ (by rfl) o s (by rfl) ?_;intro g1 w1 z1 z2 r1 b1
     have Bc:=b1
     have v1:=b1.size
     try clear c11
     try clear c16
     have c11:=r1.cell 1 _ rfl
     have c16:=r1.cell 6 _ rfl)
  | (refine Z02 (by rfl) (by rfl) ?_;intro g2 w2 z3 z4 r2 b2
     replace Bc:=Z00q Bc b2 (Nat.le_refl _)
     have v2:=b2.size
     try (replace r1:=r1.later b2)
     try (replace r2:=r2.later b2)
     try clear c11
     try clear c16
     have c11:=r1.cell 1 _ rfl
     have c16:=r1.cell 6 _ rfl))
 go_cut [48] (fun u wx=>u= .bool (!flOk o.fl)∧wx=w2)
 case first=>
  clear hfl
  by_cases h1:o.fl < 0
  · go_wp2_with fail
    all_goals
     go_meet
     refine⟨congrArg Value.bool (Z0s ?_),rfl⟩
     rw [Z0m]
     simp
     try omega
  by_cases h2:31 < o.fl
  · go_wp2_with fail
    all_goals
     go_meet
     refine⟨congrArg Value.bool (Z0s ?_),rfl⟩
     rw [Z0m]
     simp
     try omega
  have h3:0≤o.fl:=by omega
  by_cases h4:o.fl % 4=0
  · go_wp2_with fail
    all_goals
     go_meet
     refine⟨congrArg Value.bool (Z0s ?_),rfl⟩
     rw [Z0m]
     simp
     try omega
  · go_wp2_with fail
    all_goals
     go_meet
     refine⟨congrArg Value.bool (Z0s ?_),rfl⟩
     rw [Z0m]
     simp
     try omega
 case rest=>
  obtain⟨rfl,e0⟩:=hcut
  subst wc
  rw [hfl,show(!true)=false from rfl]
  have qE:(E != 0)=true:=by simpa using hE
  go_wp2_with (first
   | (go_at_call 66;refine(hP _ Bc).mono ?_;clear hP;rintro e wp ⟨⟨dd,tt,rfl⟩,bp⟩
      replace Bc:=Z00q Bc bp (Nat.le_refl _)
      have vp:=bp.size
      try (replace r1:=r1.later bp)
      try (replace r2:=r2.later bp)
      try clear c11
      try clear c16
      have c11:=r1.cell 1 _ rfl
      have c16:=r1.cell 6 _ rfl)
   | (go_at_call 35;refine(Z0b _ _).mono ?_;rintro e wf ⟨rfl,bf⟩
      replace Bc:=Z00q Bc bf (Nat.le_refl _)
      replace r2:=r2.later bf)
   | (refine Z03 (by rfl) _ _ (by rfl) g2 (by rfl) (anC E 0 nilV nilV 0 0 0) E (Z07 E) (by rfl) _ r2 rfl ?_;intro w9 r9 s9))
  exact bodyPost_ret (Z0a Z06 Tryz.results29 rfl r9 rfl) rfl ⟨anC E 0 nilV nilV 0 0 0,rfl,Z07 E,Z0e h Bc (by omega) s9⟩
set_option maxHeartbeats 8000000 in
theorem ro_x {w:World} {U:Nat→Prop} {y n:Nat} {Z:Tz} (h:Dx w U y Z) (hz:Z.ok n) (hn:n≤900) (o:Oz) (s:Sv) (ho:o.wfo) (hfl:flOk o.fl=true) {D:Int} {a:List UInt8} {i:Int} (hi:i≠0) (h8:o.fl / 8 % 2=1)
 (hP:∀ w',Below w.heap.size w w'→Calls Tryz.prog 66 #[.pointer (some ⟨y,0,none⟩), .string (str o.p), .int .i64 43] w' fun e u=>e= .returned (.tuple #[.int .i64 D, .string (str a), .int .i64 0])∧Below w'.heap.size w' u)
 (hF:∀ w',Below w.heap.size w w'→Calls Tryz.prog 67 #[.pointer (some ⟨y,0,none⟩), .int .i64 D, .string (str a)] w' fun e u=>e= .returned (.int .i64 i)∧w'=u):
 Calls Tryz.prog 29 #[.pointer (some ⟨y,0,none⟩), .agg (opC o s).toArray] w fun e w'=>RetY e U y Z 41 w w':=by
 have hwf:=Z28 ho.fl
 have hU:=h.low
 go_enter Tryz.func29,Tryz.ntmps29
 go_upto_region 2 with(first
  | (refine Z05 (by rfl) _ (by rfl) o s (by rfl) ?_;intro g1 w1 z1 z2 r1 b1
     have Bc:=b1
     have v1:=b1.size
     try clear c11
     try clear c16
     have c11:=r1.cell 1 _ rfl
     have c16:=r1.cell 6 _ rfl)
  | (refine Z02 (by rfl) (by rfl) ?_;intro g2 w2 z3 z4 r2 b2
     replace Bc:=Z00q Bc b2 (Nat.le_refl _)
     have v2:=b2.size
     try (replace r1:=r1.later b2)
     try (replace r2:=r2.later b2)
     try clear c11
     try clear c16
     have c11:=r1.cell 1 _ rfl
     have c16:=r1.cell 6 _ rfl))
 go_cut [48] (fun u wx=>u= .bool (!flOk o.fl)∧wx=w2)
 case first=>
  clear hfl
  by_cases h1:o.fl < 0
  · go_wp2_with fail
    all_goals
     go_meet
     refine⟨congrArg Value.bool (Z0s ?_),rfl⟩
     rw [Z0m]
     simp
     try omega
  by_cases h2:31 < o.fl
  · go_wp2_with fail
    all_goals
     go_meet
     refine⟨congrArg Value.bool (Z0s ?_),rfl⟩
     rw [Z0m]
     simp
     try omega
  have h3:0≤o.fl:=by omega
  by_cases h4:o.fl % 4=0
  · go_wp2_with fail
    all_goals
     go_meet
     refine⟨congrArg Value.bool (Z0s ?_),rfl⟩
     rw [Z0m]
     simp
     try omega
  · go_wp2_with fail
    all_goals
     go_meet
     refine⟨congrArg Value.bool (Z0s ?_),rfl⟩
     rw [Z0m]
     simp
     try omega
 case rest=>
  obtain⟨rfl,e0⟩:=hcut
  subst wc
  rw [hfl,show(!true)=false from rfl]
  have hf:=Z2b hfl
  have hf0:=hf.1
  have hf1:=hf.2.1
  have qi:(i != 0)=true:=by simpa using hi
  go_wp2_with (first
   | (go_at_call 66;refine(hP _ Bc).mono ?_;clear hP;rintro e wp ⟨rfl,bp⟩
      replace Bc:=Z00q Bc bp (Nat.le_refl _)
      have vp:=bp.size
      try (replace r1:=r1.later bp)
      try (replace r2:=r2.later bp)
      try clear c11
      try clear c16
      have c11:=r1.cell 1 _ rfl
      have c16:=r1.cell 6 _ rfl)
   | (go_at_call 67;refine(hF _ Bc).mono ?_;clear hF;rintro e u ⟨rfl,rfl⟩)
   | (go_at_call 35;refine(Z0b _ _).mono ?_;rintro e wf ⟨rfl,bf⟩
      replace Bc:=Z00q Bc bf (Nat.le_refl _)
      replace r2:=r2.later bf)
   | (refine Z03 (by rfl) _ _ (by rfl) g2 (by rfl) (anC 41 0 nilV nilV 0 0 0) 41 (Z07 41) (by rfl) _ r2 rfl ?_;intro w9 r9 s9))
  exact bodyPost_ret (Z0a Z06 Tryz.results29 rfl r9 rfl) rfl ⟨anC 41 0 nilV nilV 0 0 0,rfl,Z07 41,Z0e h Bc (by omega) s9⟩
set_option maxHeartbeats 8000000 in
theorem ro_n {w:World} {U:Nat→Prop} {y n:Nat} {Z:Tz} (h:Dx w U y Z) (hz:Z.ok n) (hn:n≤900) (o:Oz) (s:Sv) (ho:o.wfo) (hfl:flOk o.fl=true) {D:Int} {a:List UInt8} (h4:o.fl / 4 % 2=0)
 (hP:∀ w',Below w.heap.size w w'→Calls Tryz.prog 66 #[.pointer (some ⟨y,0,none⟩), .string (str o.p), .int .i64 43] w' fun e u=>e= .returned (.tuple #[.int .i64 D, .string (str a), .int .i64 0])∧Below w'.heap.size w' u)
 (hF:∀ w',Below w.heap.size w w'→Calls Tryz.prog 67 #[.pointer (some ⟨y,0,none⟩), .int .i64 D, .string (str a)] w' fun e u=>e= .returned (.int .i64 0)∧w'=u):
 Calls Tryz.prog 29 #[.pointer (some ⟨y,0,none⟩), .agg (opC o s).toArray] w fun e w'=>RetY e U y Z 40 w w':=by
 have hwf:=Z28 ho.fl
 have hU:=h.low
 go_enter Tryz.func29,Tryz.ntmps29
 go_upto_region 2 with(first
  | (refine Z05 (by rfl) _ (by rfl) o s (by rfl) ?_;intro g1 w1 z1 z2 r1 b1
     have Bc:=b1
     have v1:=b1.size
     try clear c11
     try clear c16
     have c11:=r1.cell 1 _ rfl
     have c16:=r1.cell 6 _ rfl)
  | (refine Z02 (by rfl) (by rfl) ?_;intro g2 w2 z3 z4 r2 b2
     replace Bc:=Z00q Bc b2 (Nat.le_refl _)
     have v2:=b2.size
     try (replace r1:=r1.later b2)
     try (replace r2:=r2.later b2)
     try clear c11
     try clear c16
     have c11:=r1.cell 1 _ rfl
     have c16:=r1.cell 6 _ rfl))
 go_cut [48] (fun u wx=>u= .bool (!flOk o.fl)∧wx=w2)
 case first=>
  clear hfl
  by_cases h1:o.fl < 0
  · go_wp2_with fail
    all_goals
     go_meet
     refine⟨congrArg Value.bool (Z0s ?_),rfl⟩
     rw [Z0m]
     simp
     try omega
  by_cases h2:31 < o.fl
  · go_wp2_with fail
    all_goals
     go_meet
     refine⟨congrArg Value.bool (Z0s ?_),rfl⟩
     rw [Z0m]
     simp
     try omega
  have h3:0≤o.fl:=by omega
  by_cases h4:o.fl % 4=0
  · go_wp2_with fail
    all_goals
     go_meet
     refine⟨congrArg Value.bool (Z0s ?_),rfl⟩
     rw [Z0m]
     simp
     try omega
  · go_wp2_with fail
    all_goals
     go_meet
     refine⟨congrArg Value.bool (Z0s ?_),rfl⟩
     rw [Z0m]
     simp
     try omega
 case rest=>
  obtain⟨rfl,e0⟩:=hcut
  subst wc
  rw [hfl,show(!true)=false from rfl]
  have hf:=Z2b hfl
  have hf0:=hf.1
  have hf1:=hf.2.1
  go_wp2_with (first
   | (go_at_call 66;refine(hP _ Bc).mono ?_;clear hP;rintro e wp ⟨rfl,bp⟩
      replace Bc:=Z00q Bc bp (Nat.le_refl _)
      have vp:=bp.size
      try (replace r1:=r1.later bp)
      try (replace r2:=r2.later bp)
      try clear c11
      try clear c16
      have c11:=r1.cell 1 _ rfl
      have c16:=r1.cell 6 _ rfl)
   | (go_at_call 67;refine(hF _ Bc).mono ?_;clear hF;rintro e u ⟨rfl,rfl⟩)
   | (go_at_call 35;refine(Z0b _ _).mono ?_;rintro e wf ⟨rfl,bf⟩
      replace Bc:=Z00q Bc bf (Nat.le_refl _)
      replace r2:=r2.later bf)
   | (refine Z03 (by rfl) _ _ (by rfl) g2 (by rfl) (anC 40 0 nilV nilV 0 0 0) 40 (Z07 40) (by rfl) _ r2 rfl ?_;intro w9 r9 s9))
  exact bodyPost_ret (Z0a Z06 Tryz.results29 rfl r9 rfl) rfl ⟨anC 40 0 nilV nilV 0 0 0,rfl,Z07 40,Z0e h Bc (by omega) s9⟩
set_option maxHeartbeats 8000000 in
theorem ro_d {w:World} {U:Nat→Prop} {y n:Nat} {Z:Tz} (h:Dx w U y Z) (hz:Z.ok n) (hn:n≤900) (o:Oz) (s:Sv) (ho:o.wfo) (hfl:flOk o.fl=true) {D:Int} {a:List UInt8} {i:Int} (hi:1≤i∧i.toNat < Z.N.length) (h8:¬o.fl / 8 % 2=1) (hki:(Z.nd i).k=2)
 (hP:∀ w',Below w.heap.size w w'→Calls Tryz.prog 66 #[.pointer (some ⟨y,0,none⟩), .string (str o.p), .int .i64 43] w' fun e u=>e= .returned (.tuple #[.int .i64 D, .string (str a), .int .i64 0])∧Below w'.heap.size w' u)
 (hF:∀ w',Below w.heap.size w w'→Calls Tryz.prog 67 #[.pointer (some ⟨y,0,none⟩), .int .i64 D, .string (str a)] w' fun e u=>e= .returned (.int .i64 i)∧w'=u):
 Calls Tryz.prog 29 #[.pointer (some ⟨y,0,none⟩), .agg (opC o s).toArray] w fun e w'=>RetY e U y Z 43 w w':=by
 have hwf:=Z28 ho.fl
 have hU:=h.low
 go_enter Tryz.func29,Tryz.ntmps29
 go_upto_region 2 with(first
  | (refine Z05 (by rfl) _ (by rfl) o s (by rfl) ?_;intro g1 w1 z1 z2 r1 b1
     have Bc:=b1
     have v1:=b1.size
     try clear c11
     try clear c16
     have c11:=r1.cell 1 _ rfl
     have c16:=r1.cell 6 _ rfl)
  | (refine Z02 (by rfl) (by rfl) ?_;intro g2 w2 z3 z4 r2 b2
     replace Bc:=Z00q Bc b2 (Nat.le_refl _)
     have v2:=b2.size
     try (replace r1:=r1.later b2)
     try (replace r2:=r2.later b2)
     try clear c11
     try clear c16
     have c11:=r1.cell 1 _ rfl
     have c16:=r1.cell 6 _ rfl))
 go_cut [48] (fun u wx=>u= .bool (!flOk o.fl)∧wx=w2)
 case first=>
  clear hfl
  by_cases h1:o.fl < 0
  · go_wp2_with fail
    all_goals
     go_meet
     refine⟨congrArg Value.bool (Z0s ?_),rfl⟩
     rw [Z0m]
     simp
     try omega
  by_cases h2:31 < o.fl
  · go_wp2_with fail
    all_goals
     go_meet
     refine⟨congrArg Value.bool (Z0s ?_),rfl⟩
     rw [Z0m]
     simp
     try omega
  have h3:0≤o.fl:=by omega
  by_cases h4:o.fl % 4=0
  · go_wp2_with fail
    all_goals
     go_meet
     refine⟨congrArg Value.bool (Z0s ?_),rfl⟩
     rw [Z0m]
     simp
     try omega
  · go_wp2_with fail
    all_goals
     go_meet
     refine⟨congrArg Value.bool (Z0s ?_),rfl⟩
     rw [Z0m]
     simp
     try omega
 case rest=>
  obtain⟨rfl,e0⟩:=hcut
  subst wc
  rw [hfl,show(!true)=false from rfl]
  have hf:=Z2b hfl
  have hf0:=hf.1
  have hf1:=hf.2.1
  obtain⟨fb,r,c,A,F,sd,sn,H,hUU⟩:=h
  obtain⟨ki,rfl⟩:∃ ki:Nat,i=(ki:Int):=⟨i.toNat,by omega⟩
  have hik:ki < Z.N.length:=by simpa using hi.2
  have a7:(ki:Int) < (Z.N.length:Int):=by omega
  have a6:(0:Int)≤(ki:Int):=by omega
  have qi:((ki:Int) != 0)=true:=by simp;omega
  have qi0:((ki:Int)==0)=false:=by simp;omega
  have q8:(o.fl / 8 % 2==1)=false:=by simpa using h8
  go_wp2_with (first
   | (go_at_call 66;refine(hP _ Bc).mono ?_;clear hP;rintro e wp ⟨rfl,bp⟩
      replace Bc:=Z00q Bc bp (Nat.le_refl _)
      have vp:=bp.size
      try (replace r1:=r1.later bp)
      try (replace r2:=r2.later bp)
      try clear c11
      try clear c16
      have c11:=r1.cell 1 _ rfl
      have c16:=r1.cell 6 _ rfl)
   | (go_at_call 67;refine(hF _ Bc).mono ?_;clear hF;rintro e u ⟨rfl,rfl⟩
      have q0:=(H.later Bc).c0
      have qk:=(H.later Bc).nk hik
      rw [hki]at qk)
   | (go_at_call 35;refine(Z0b _ _).mono ?_;rintro e wf ⟨rfl,bf⟩
      replace Bc:=Z00q Bc bf (Nat.le_refl _)
      replace r2:=r2.later bf)
   | (refine Z03 (by rfl) _ _ (by rfl) g2 (by rfl) (anC 43 0 nilV nilV 0 0 0) 43 (Z07 43) (by rfl) _ r2 rfl ?_;intro w9 r9 s9))
  exact bodyPost_ret (Z0a Z06 Tryz.results29 rfl r9 rfl) rfl ⟨anC 43 0 nilV nilV 0 0 0,rfl,Z07 43,(Z0e ⟨fb,r,c,A,F,sd,sn,H,hUU⟩ Bc (by omega) s9)⟩
set_option maxRecDepth 100000
set_option maxHeartbeats 8000000 in
theorem ro_y {w:World} {U:Nat→Prop} {y n:Nat} {Z:Tz} (h:Dx w U y Z) (hz:Z.ok n) (hn:n≤900) (o:Oz) (s:Sv) (ho:o.wfo) (hfl:flOk o.fl=true) {D:Int} {a:List UInt8} {i:Int} (hi:1≤i∧i.toNat < Z.N.length) (h8:¬o.fl / 8 % 2=1) (hki:(Z.nd i).k=1) (h9:¬(fdUs Z.t 8).length=8) {j:Int} {Z1:Tz} (hjl:1≤j∧j.toNat < Z1.N.length) (hj:Hid (j=i)) (hZ1:Hid (Z1=Z))
 (hP:∀ w',Below w.heap.size w w'→Calls Tryz.prog 66 #[.pointer (some ⟨y,0,none⟩), .string (str o.p), .int .i64 43] w' fun e u=>e= .returned (.tuple #[.int .i64 D, .string (str a), .int .i64 0])∧Below w'.heap.size w' u)
 (hF:∀ w',Below w.heap.size w w'→Calls Tryz.prog 67 #[.pointer (some ⟨y,0,none⟩), .int .i64 D, .string (str a)] w' fun e u=>e= .returned (.int .i64 i)∧w'=u):
 Calls Tryz.prog 29 #[.pointer (some ⟨y,0,none⟩), .agg (opC o s).toArray] w fun e w'=>RetY e U y ((Z1.opS2 j o.fl).opS3 j o.fl) 0 w w':=by
 have hwf:=Z28 ho.fl
 have hU:=h.low
 go_enter Tryz.func29,Tryz.ntmps29
 go_upto_region 2 with(first
  | (refine Z05 (by rfl) _ (by rfl) o s (by rfl) ?_;intro g1 w1 z1 z2 r1 b1
     have Bc:=b1
     have v1:=b1.size
     try clear c11
     try clear c16
     have c11:=r1.cell 1 _ rfl
     have c16:=r1.cell 6 _ rfl)
  | (refine Z02 (by rfl) (by rfl) ?_;intro g2 w2 z3 z4 r2 b2
     replace Bc:=Z00q Bc b2 (Nat.le_refl _)
     have v2:=b2.size
     try (replace r1:=r1.later b2)
     try (replace r2:=r2.later b2)
     try clear c11
     try clear c16
     have c11:=r1.cell 1 _ rfl
     have c16:=r1.cell 6 _ rfl))
 go_cut [48] (fun u wx=>u= .bool (!flOk o.fl)∧wx=w2)
 case first=>
  clear hfl
  by_cases h1:o.fl < 0
  · go_wp2_with fail
    all_goals
     go_meet
     refine⟨congrArg Value.bool (Z0s ?_),rfl⟩
     rw [Z0m]
     simp
     try omega
  by_cases h2:31 < o.fl
  · go_wp2_with fail
    all_goals
     go_meet
     refine⟨congrArg Value.bool (Z0s ?_),rfl⟩
     rw [Z0m]
     simp
     try omega
  have h3:0≤o.fl:=by omega
  by_cases h4:o.fl % 4=0
  · go_wp2_with fail
    all_goals
     go_meet
     refine⟨congrArg Value.bool (Z0s ?_),rfl⟩
     rw [Z0m]
     simp
     try omega
  · go_wp2_with fail
    all_goals
     go_meet
     refine⟨congrArg Value.bool (Z0s ?_),rfl⟩
     rw [Z0m]
     simp
     try omega
 case rest=>
  obtain⟨rfl,e0⟩:=hcut
  subst wc
  rw [hfl,show(!true)=false from rfl]
  have hf:=Z2b hfl
  have hf0:=hf.1
  have hf1:=hf.2.1
  obtain⟨fb,r,c,A,F,sd,sn,H,hUU⟩:=h
  obtain⟨ki,rfl⟩:∃ ki:Nat,i=(ki:Int):=⟨i.toNat,by omega⟩
  have hik:ki < Z.N.length:=by simpa using hi.2
  have a7:(ki:Int) < (Z.N.length:Int):=by omega
  have a6:(0:Int)≤(ki:Int):=by omega
  have qi:((ki:Int) != 0)=true:=by simp;omega
  have qi0:((ki:Int)==0)=false:=by simp;omega
  have q8:(o.fl / 8 % 2==1)=false:=by simpa using h8
  have q9:(((fdUs Z.t 8).length:Int)==8)=false:=by simp;omega
  go_upto_if 107 with(first
   | (go_at_call 66;refine(hP _ Bc).mono ?_;clear hP;rintro e wp ⟨rfl,bp⟩
      replace Bc:=Z00q Bc bp (Nat.le_refl _)
      have vp:=bp.size
      try (replace r1:=r1.later bp)
      try (replace r2:=r2.later bp)
      try clear c11
      try clear c16
      have c11:=r1.cell 1 _ rfl
      have c16:=r1.cell 6 _ rfl)
   | (go_at_call 67;refine(hF _ Bc).mono ?_;clear hF;rintro e u ⟨rfl,rfl⟩
      have q0:=(H.later Bc).c0
      have qk:=(H.later Bc).nk hik
      rw [hki]at qk
      have q1:=(H.later Bc).c1)
   | (go_at_call 19;refine(Z5o (H.later Bc).fd).mono ?_;rintro e wu ⟨⟨ua,uc,rfl⟩,bu⟩
      replace Bc:=Z00q Bc bu (Nat.le_refl _)
      have vu:=bu.size
      try (replace r1:=r1.later bu)
      try (replace r2:=r2.later bu)
      try clear c11
      try clear c16
      have c11:=r1.cell 1 _ rfl
      have c16:=r1.cell 6 _ rfl))
  go_cut [9] (fun u wx=>u= .int .i64 j∧∃ U1,Dx wx U1 y Z1∧Stp U wu wx∧Grew U U1 wu wx)
  case first=>
   go_wp2_with fail
   go_meet
   exact⟨by rw [hj.out],U,by rw [hZ1.out];exact Dx.later (w:=w) (U:=U) (y:=y) (Z:=Z) ⟨fb,r,c,A,F,sd,sn,H,hUU⟩ Bc,Stp.refl _ _,Grew.refl _ _ _⟩
  case rest=>
   obtain⟨rfl,U1,T1,S1,E1⟩:=hcut
   have zc:=S1.size
   have l1:=r1.lt
   have l2:=r2.lt
   have nV:∀ y,w.heap.size≤y→y < wu.heap.size→¬U1 y:=fun y h1 h2 e=>by
    rcases E1 y e with c | c
    · have:=hU y c;omega
    · omega
   have r2c:=r2.step S1 (fun e=>by have:=hU g2 e;omega)
   clear c11 c16 q0 q1 r1
   obtain⟨kj,rfl⟩:∃ kj:Nat,j=(kj:Int):=⟨j.toNat,by omega⟩
   have hjk:kj < Z1.N.length:=by simpa using hjl.2
   have b7:(kj:Int) < (Z1.N.length:Int):=by omega
   have b6:(0:Int)≤(kj:Int):=by omega
   go_upto_if 115 with fail
   go_cut [] (fun wx=>∃ U2,Dx wx U2 y (Z1.opS2 (kj:Int) o.fl)∧Stp U1 wc wx∧Grew U1 U2 wc wx)
   case first=>
    by_cases h16:o.fl / 16 % 2=1
    · have eZ:Hid (Z1.opS2 (kj:Int) o.fl=Z1.dat (kj:Int) []):=by show _=_;unfold Tz.opS2;rw [if_pos h16]
      obtain⟨fb,r,c,A,F,sd,sn,H,hUU⟩:=T1
      have q0:=H.c0
      have qd:=H.ndt hjk
      have qf:=H.row.frozen (kj * 4+2)
      have H3:=H.set2 hjk (s:=Sv.nil) (d:= []) ⟨Z0y _,InE.nil _⟩
      go_wp2_with fail
      go_meet
      refine⟨U1,?_,(Stp.refl U1 _).setCell (p:=⟨r,kj * 4+2,none⟩) (.inl ((hUU r).2 (.inr (.inr (.inl rfl))))) _,Grew.refl _ _ _⟩
      rw [eZ.out]
      exact⟨fb,r,c,_,_,_,_,H3,hUU⟩
    · have eZ:Hid (Z1.opS2 (kj:Int) o.fl=Z1):=by show _=_;unfold Tz.opS2;rw [if_neg h16]
      have q16:(o.fl / 16 % 2==1)=false:=by simpa using h16
      go_wp2_with fail
      go_meet
      exact⟨U1,by rw [eZ.out];exact T1,Stp.refl _ _,Grew.refl _ _ _⟩
   case rest=>
    obtain⟨U2,T2,S2,E2⟩:=hcut
    have zd:=S2.size
    obtain⟨fb4,r4,c4,A4,F4,sd4,sn4,H4,hU4⟩:=T2
    have q1:=H4.c1
    have nW:¬U2 g2:=fun e=>by
     rcases E2 g2 e with c | c
     · exact nV g2 (by omega) (by omega) c
     · omega
    replace r2c:=r2c.step S2 (nV g2 (by omega) (by omega))
    have hO:=Z6b H4.fd (kj:Int) (o.fl % 4)
    have eT:Hid ((Z1.opS2 (kj:Int) o.fl).opS3 (kj:Int) o.fl=(Z1.opS2 (kj:Int) o.fl).fds (Z0g (Z1.opS2 (kj:Int) o.fl).t (kj:Int) (o.fl % 4))):=rfl
    go_wp2_with (first
     | (go_at_call 69;refine hO.mono ?_;clear hO;rintro e wS ⟨rfl,R5,s5⟩
        have H5:=H4.tab R5 s5
        have k5:Stp U2 _ wS:=s5.mono (fun x e=> .inl ((hU4 x).2 (.inr (.inl e))))
        have r2d:=r2c.step k5 nW)
     | (refine Z03 (by rfl) _ _ (by rfl) g2 (by rfl) (anC 0 (Z15 (Z1.opS2 (kj:Int) o.fl).t) nilV nilV 0 0 0) 0 (Z1y _) (by rfl) _ r2d rfl ?_;intro w9 r9 s9))
    have GG:DxG U y ((Z1.opS2 (kj:Int) o.fl).opS3 (kj:Int) o.fl) wu wS:=DxG.join S1 E1 (DxG.join S2 E2 ⟨U2,by rw [eT.out];exact⟨fb4,r4,c4,A4,F4,sd4,sn4,H5,hU4⟩,k5,Grew.refl _ _ _⟩)
    exact bodyPost_ret (Z0a Z06 Tryz.results29 rfl r9 rfl) rfl ⟨_,rfl,Z1y _,Z11 hU Bc GG (by omega) l2 s9⟩
set_option maxHeartbeats 8000000 in
theorem Zhh {w:World} {U:Nat→Prop} {y n:Nat} {Z:Tz} (h:Dx w U y Z) (hz:Z.ok n) (hn:n≤900) (o:Oz) (s:Sv) (ho:o.wfo) (hfl:flOk o.fl=true) {D:Int} {a:List UInt8} (h4:¬o.fl / 4 % 2=0) (h9:¬(fdUs Z.t 8).length=8) {j:Int} {Z1:Tz} (hjl:1≤j∧j.toNat < Z1.N.length)
 (hP:∀ w',Below w.heap.size w w'→Calls Tryz.prog 66 #[.pointer (some ⟨y,0,none⟩), .string (str o.p), .int .i64 43] w' fun e u=>e= .returned (.tuple #[.int .i64 D, .string (str a), .int .i64 0])∧Below w'.heap.size w' u)
 (hF:∀ w',Below w.heap.size w w'→Calls Tryz.prog 67 #[.pointer (some ⟨y,0,none⟩), .int .i64 D, .string (str a)] w' fun e u=>e= .returned (.int .i64 0)∧w'=u)
 (hM:∀ w',Below w.heap.size w w'→Calls Tryz.prog 68 #[.pointer (some ⟨y,0,none⟩), .int .i64 D, .string (str a), .int .i64 1] w' fun e u=>e= .returned (.int .i64 j)∧DxG U y Z1 w' u):
 Calls Tryz.prog 29 #[.pointer (some ⟨y,0,none⟩), .agg (opC o s).toArray] w fun e w'=>RetY e U y ((Z1.opS2 j o.fl).opS3 j o.fl) 0 w w':=by
 have hwf:=Z28 ho.fl
 have hU:=h.low
 go_enter Tryz.func29,Tryz.ntmps29
 go_upto_region 2 with(first
  | (refine Z05 (by rfl) _ (by rfl) o s (by rfl) ?_;intro g1 w1 z1 z2 r1 b1
     have Bc:=b1
     have v1:=b1.size
     try clear c11
     try clear c16
     have c11:=r1.cell 1 _ rfl
     have c16:=r1.cell 6 _ rfl)
  | (refine Z02 (by rfl) (by rfl) ?_;intro g2 w2 z3 z4 r2 b2
     replace Bc:=Z00q Bc b2 (Nat.le_refl _)
     have v2:=b2.size
     try (replace r1:=r1.later b2)
     try (replace r2:=r2.later b2)
     try clear c11
     try clear c16
     have c11:=r1.cell 1 _ rfl
     have c16:=r1.cell 6 _ rfl))
 go_cut [48] (fun u wx=>u= .bool (!flOk o.fl)∧wx=w2)
 case first=>
  clear hfl
  by_cases h1:o.fl < 0
  · go_wp2_with fail
    all_goals
     go_meet
     refine⟨congrArg Value.bool (Z0s ?_),rfl⟩
     rw [Z0m]
     simp
     try omega
  by_cases h2:31 < o.fl
  · go_wp2_with fail
    all_goals
     go_meet
     refine⟨congrArg Value.bool (Z0s ?_),rfl⟩
     rw [Z0m]
     simp
     try omega
  have h3:0≤o.fl:=by omega
  by_cases h4:o.fl % 4=0
  · go_wp2_with fail
    all_goals
     go_meet
     refine⟨congrArg Value.bool (Z0s ?_),rfl⟩
     rw [Z0m]
     simp
     try omega
  · go_wp2_with fail
    all_goals
     go_meet
     refine⟨congrArg Value.bool (Z0s ?_),rfl⟩
     rw [Z0m]
     simp
     try omega
 case rest=>
  obtain⟨rfl,e0⟩:=hcut
  subst wc
  rw [hfl,show(!true)=false from rfl]
  have hf:=Z2b hfl
  have hf0:=hf.1
  have hf1:=hf.2.1
  obtain⟨fb,r,c,A,F,sd,sn,H,hUU⟩:=h
  have q4:(o.fl / 4 % 2==0)=false:=by simpa using h4
  have q9:(((fdUs Z.t 8).length:Int)==8)=false:=by simp;omega
  have q0:True:=trivial
  go_upto_if 107 with(first
   | (go_at_call 66;refine(hP _ Bc).mono ?_;clear hP;rintro e wp ⟨rfl,bp⟩
      replace Bc:=Z00q Bc bp (Nat.le_refl _)
      have vp:=bp.size
      try (replace r1:=r1.later bp)
      try (replace r2:=r2.later bp)
      try clear c11
      try clear c16
      have c11:=r1.cell 1 _ rfl
      have c16:=r1.cell 6 _ rfl)
   | (go_at_call 67;refine(hF _ Bc).mono ?_;clear hF;rintro e u ⟨rfl,rfl⟩
      have q1:=(H.later Bc).c1)
   | (go_at_call 19;refine(Z5o (H.later Bc).fd).mono ?_;rintro e wu ⟨⟨ua,uc,rfl⟩,bu⟩
      replace Bc:=Z00q Bc bu (Nat.le_refl _)
      have vu:=bu.size
      try (replace r1:=r1.later bu)
      try (replace r2:=r2.later bu)
      try clear c11
      try clear c16
      have c11:=r1.cell 1 _ rfl
      have c16:=r1.cell 6 _ rfl))
  go_cut [9] (fun u wx=>u= .int .i64 j∧∃ U1,Dx wx U1 y Z1∧Stp U wu wx∧Grew U U1 wu wx)
  case first=>
   go_wp2_with (go_at_call 68;refine(hM _ Bc).mono ?_;clear hM;rintro e wm ⟨rfl,Um,tm,sm,em⟩)
   go_meet
   exact⟨rfl,Um,tm,sm,em⟩
  case rest=>
   obtain⟨rfl,U1,T1,S1,E1⟩:=hcut
   have zc:=S1.size
   have l1:=r1.lt
   have l2:=r2.lt
   have nV:∀ y,w.heap.size≤y→y < wu.heap.size→¬U1 y:=fun y h1 h2 e=>by
    rcases E1 y e with c | c
    · have:=hU y c;omega
    · omega
   have r2c:=r2.step S1 (fun e=>by have:=hU g2 e;omega)
   clear c11 c16 q0 q1 r1
   obtain⟨kj,rfl⟩:∃ kj:Nat,j=(kj:Int):=⟨j.toNat,by omega⟩
   have hjk:kj < Z1.N.length:=by simpa using hjl.2
   have b7:(kj:Int) < (Z1.N.length:Int):=by omega
   have b6:(0:Int)≤(kj:Int):=by omega
   go_upto_if 115 with fail
   go_cut [] (fun wx=>∃ U2,Dx wx U2 y (Z1.opS2 (kj:Int) o.fl)∧Stp U1 wc wx∧Grew U1 U2 wc wx)
   case first=>
    by_cases h16:o.fl / 16 % 2=1
    · have eZ:Hid (Z1.opS2 (kj:Int) o.fl=Z1.dat (kj:Int) []):=by show _=_;unfold Tz.opS2;rw [if_pos h16]
      obtain⟨fb,r,c,A,F,sd,sn,H,hUU⟩:=T1
      have q0:=H.c0
      have qd:=H.ndt hjk
      have qf:=H.row.frozen (kj * 4+2)
      have H3:=H.set2 hjk (s:=Sv.nil) (d:= []) ⟨Z0y _,InE.nil _⟩
      go_wp2_with fail
      go_meet
      refine⟨U1,?_,(Stp.refl U1 _).setCell (p:=⟨r,kj * 4+2,none⟩) (.inl ((hUU r).2 (.inr (.inr (.inl rfl))))) _,Grew.refl _ _ _⟩
      rw [eZ.out]
      exact⟨fb,r,c,_,_,_,_,H3,hUU⟩
    · have eZ:Hid (Z1.opS2 (kj:Int) o.fl=Z1):=by show _=_;unfold Tz.opS2;rw [if_neg h16]
      have q16:(o.fl / 16 % 2==1)=false:=by simpa using h16
      go_wp2_with fail
      go_meet
      exact⟨U1,by rw [eZ.out];exact T1,Stp.refl _ _,Grew.refl _ _ _⟩
   case rest=>
    obtain⟨U2,T2,S2,E2⟩:=hcut
    have zd:=S2.size
    obtain⟨fb4,r4,c4,A4,F4,sd4,sn4,H4,hU4⟩:=T2
    have q1:=H4.c1
    have nW:¬U2 g2:=fun e=>by
     rcases E2 g2 e with c | c
     · exact nV g2 (by omega) (by omega) c
     · omega
    replace r2c:=r2c.step S2 (nV g2 (by omega) (by omega))
    have hO:=Z6b H4.fd (kj:Int) (o.fl % 4)
    have eT:Hid ((Z1.opS2 (kj:Int) o.fl).opS3 (kj:Int) o.fl=(Z1.opS2 (kj:Int) o.fl).fds (Z0g (Z1.opS2 (kj:Int) o.fl).t (kj:Int) (o.fl % 4))):=rfl
    go_wp2_with (first
     | (go_at_call 69;refine hO.mono ?_;clear hO;rintro e wS ⟨rfl,R5,s5⟩
        have H5:=H4.tab R5 s5
        have k5:Stp U2 _ wS:=s5.mono (fun x e=> .inl ((hU4 x).2 (.inr (.inl e))))
        have r2d:=r2c.step k5 nW)
     | (refine Z03 (by rfl) _ _ (by rfl) g2 (by rfl) (anC 0 (Z15 (Z1.opS2 (kj:Int) o.fl).t) nilV nilV 0 0 0) 0 (Z1y _) (by rfl) _ r2d rfl ?_;intro w9 r9 s9))
    have GG:DxG U y ((Z1.opS2 (kj:Int) o.fl).opS3 (kj:Int) o.fl) wu wS:=DxG.join S1 E1 (DxG.join S2 E2 ⟨U2,by rw [eT.out];exact⟨fb4,r4,c4,A4,F4,sd4,sn4,H5,hU4⟩,k5,Grew.refl _ _ _⟩)
    exact bodyPost_ret (Z0a Z06 Tryz.results29 rfl r9 rfl) rfl ⟨_,rfl,Z1y _,Z11 hU Bc GG (by omega) l2 s9⟩
set_option maxRecDepth 100000
set_option maxHeartbeats 8000000 in
theorem ro_g {w:World} {U:Nat→Prop} {y n:Nat} {Z:Tz} (h:Dx w U y Z) (hz:Z.ok n) (hn:n≤900) (o:Oz) (s:Sv) (ho:o.wfo) (hfl:flOk o.fl=true) {D:Int} {a:List UInt8} {i:Int} (hi:1≤i∧i.toNat < Z.N.length) (h8:¬o.fl / 8 % 2=1) (hki:(Z.nd i).k=1) (h9:(fdUs Z.t 8).length=8)
 (hP:∀ w',Below w.heap.size w w'→Calls Tryz.prog 66 #[.pointer (some ⟨y,0,none⟩), .string (str o.p), .int .i64 43] w' fun e u=>e= .returned (.tuple #[.int .i64 D, .string (str a), .int .i64 0])∧Below w'.heap.size w' u)
 (hF:∀ w',Below w.heap.size w w'→Calls Tryz.prog 67 #[.pointer (some ⟨y,0,none⟩), .int .i64 D, .string (str a)] w' fun e u=>e= .returned (.int .i64 i)∧w'=u):
 Calls Tryz.prog 29 #[.pointer (some ⟨y,0,none⟩), .agg (opC o s).toArray] w fun e w'=>RetY e U y Z 47 w w':=by
 have hwf:=Z28 ho.fl
 have hU:=h.low
 go_enter Tryz.func29,Tryz.ntmps29
 go_upto_region 2 with(first
  | (refine Z05 (by rfl) _ (by rfl) o s (by rfl) ?_;intro g1 w1 z1 z2 r1 b1
     have Bc:=b1
     have v1:=b1.size
     try clear c11
     try clear c16
     have c11:=r1.cell 1 _ rfl
     have c16:=r1.cell 6 _ rfl)
  | (refine Z02 (by rfl) (by rfl) ?_;intro g2 w2 z3 z4 r2 b2
     replace Bc:=Z00q Bc b2 (Nat.le_refl _)
     have v2:=b2.size
     try (replace r1:=r1.later b2)
     try (replace r2:=r2.later b2)
     try clear c11
     try clear c16
     have c11:=r1.cell 1 _ rfl
     have c16:=r1.cell 6 _ rfl))
 go_cut [48] (fun u wx=>u= .bool (!flOk o.fl)∧wx=w2)
 case first=>
  clear hfl
  by_cases h1:o.fl < 0
  · go_wp2_with fail
    all_goals
     go_meet
     refine⟨congrArg Value.bool (Z0s ?_),rfl⟩
     rw [Z0m]
     simp
     try omega
  by_cases h2:31 < o.fl
  · go_wp2_with fail
    all_goals
     go_meet
     refine⟨congrArg Value.bool (Z0s ?_),rfl⟩
     rw [Z0m]
     simp
     try omega
  have h3:0≤o.fl:=by omega
  by_cases h4:o.fl % 4=0
  · go_wp2_with fail
    all_goals
     go_meet
     refine⟨congrArg Value.bool (Z0s ?_),rfl⟩
     rw [Z0m]
     simp
     try omega
  · go_wp2_with fail
    all_goals
     go_meet
     refine⟨congrArg Value.bool (Z0s ?_),rfl⟩
     rw [Z0m]
     simp
     try omega
 case rest=>
  obtain⟨rfl,e0⟩:=hcut
  subst wc
  rw [hfl,show(!true)=false from rfl]
  have hf:=Z2b hfl
  have hf0:=hf.1
  have hf1:=hf.2.1
  obtain⟨fb,r,c,A,F,sd,sn,H,hUU⟩:=h
  obtain⟨ki,rfl⟩:∃ ki:Nat,i=(ki:Int):=⟨i.toNat,by omega⟩
  have hik:ki < Z.N.length:=by simpa using hi.2
  have a7:(ki:Int) < (Z.N.length:Int):=by omega
  have a6:(0:Int)≤(ki:Int):=by omega
  have qi:((ki:Int) != 0)=true:=by simp;omega
  have qi0:((ki:Int)==0)=false:=by simp;omega
  have q8:(o.fl / 8 % 2==1)=false:=by simpa using h8
  go_wp2_with (first
   | (go_at_call 66;refine(hP _ Bc).mono ?_;clear hP;rintro e wp ⟨rfl,bp⟩
      replace Bc:=Z00q Bc bp (Nat.le_refl _)
      have vp:=bp.size
      try (replace r1:=r1.later bp)
      try (replace r2:=r2.later bp)
      try clear c11
      try clear c16
      have c11:=r1.cell 1 _ rfl
      have c16:=r1.cell 6 _ rfl)
   | (go_at_call 67;refine(hF _ Bc).mono ?_;clear hF;rintro e u ⟨rfl,rfl⟩
      have q0:=(H.later Bc).c0
      have qk:=(H.later Bc).nk hik
      rw [hki]at qk
      have q1:=(H.later Bc).c1)
   | (go_at_call 19;refine(Z5o (H.later Bc).fd).mono ?_;rintro e wu ⟨⟨ua,uc,rfl⟩,bu⟩
      replace Bc:=Z00q Bc bu (Nat.le_refl _)
      have vu:=bu.size
      try (replace r1:=r1.later bu)
      try (replace r2:=r2.later bu)
      try clear c11
      try clear c16
      have c11:=r1.cell 1 _ rfl
      have c16:=r1.cell 6 _ rfl)
   | (go_at_call 35;refine(Z0b _ _).mono ?_;rintro e wf ⟨rfl,bf⟩
      replace Bc:=Z00q Bc bf (Nat.le_refl _)
      replace r2:=r2.later bf)
   | (refine Z03 (by rfl) _ _ (by rfl) g2 (by rfl) (anC 47 0 nilV nilV 0 0 0) 47 (Z07 47) (by rfl) _ r2 rfl ?_;intro w9 r9 s9))
  exact bodyPost_ret (Z0a Z06 Tryz.results29 rfl r9 rfl) rfl ⟨anC 47 0 nilV nilV 0 0 0,rfl,Z07 47,(Z0e ⟨fb,r,c,A,F,sd,sn,H,hUU⟩ Bc (by omega) s9)⟩
set_option maxHeartbeats 8000000 in
theorem Zhg {w:World} {U:Nat→Prop} {y n:Nat} {Z:Tz} (h:Dx w U y Z) (hz:Z.ok n) (hn:n≤900) (o:Oz) (s:Sv) (ho:o.wfo) (hfl:flOk o.fl=true) {D:Int} {a:List UInt8} (h4:¬o.fl / 4 % 2=0) (h9:(fdUs Z.t 8).length=8)
 (hP:∀ w',Below w.heap.size w w'→Calls Tryz.prog 66 #[.pointer (some ⟨y,0,none⟩), .string (str o.p), .int .i64 43] w' fun e u=>e= .returned (.tuple #[.int .i64 D, .string (str a), .int .i64 0])∧Below w'.heap.size w' u)
 (hF:∀ w',Below w.heap.size w w'→Calls Tryz.prog 67 #[.pointer (some ⟨y,0,none⟩), .int .i64 D, .string (str a)] w' fun e u=>e= .returned (.int .i64 0)∧w'=u):
 Calls Tryz.prog 29 #[.pointer (some ⟨y,0,none⟩), .agg (opC o s).toArray] w fun e w'=>RetY e U y Z 47 w w':=by
 have hwf:=Z28 ho.fl
 have hU:=h.low
 go_enter Tryz.func29,Tryz.ntmps29
 go_upto_region 2 with(first
  | (refine Z05 (by rfl) _ (by rfl) o s (by rfl) ?_;intro g1 w1 z1 z2 r1 b1
     have Bc:=b1
     have v1:=b1.size
     try clear c11
     try clear c16
     have c11:=r1.cell 1 _ rfl
     have c16:=r1.cell 6 _ rfl)
  | (refine Z02 (by rfl) (by rfl) ?_;intro g2 w2 z3 z4 r2 b2
     replace Bc:=Z00q Bc b2 (Nat.le_refl _)
     have v2:=b2.size
     try (replace r1:=r1.later b2)
     try (replace r2:=r2.later b2)
     try clear c11
     try clear c16
     have c11:=r1.cell 1 _ rfl
     have c16:=r1.cell 6 _ rfl))
 go_cut [48] (fun u wx=>u= .bool (!flOk o.fl)∧wx=w2)
 case first=>
  clear hfl
  by_cases h1:o.fl < 0
  · go_wp2_with fail
    all_goals
     go_meet
     refine⟨congrArg Value.bool (Z0s ?_),rfl⟩
     rw [Z0m]
     simp
     try omega
  by_cases h2:31 < o.fl
  · go_wp2_with fail
    all_goals
     go_meet
     refine⟨congrArg Value.bool (Z0s ?_),rfl⟩
     rw [Z0m]
     simp
     try omega
  have h3:0≤o.fl:=by omega
  by_cases h4:o.fl % 4=0
  · go_wp2_with fail
    all_goals
     go_meet
     refine⟨congrArg Value.bool (Z0s ?_),rfl⟩
     rw [Z0m]
     simp
     try omega
  · go_wp2_with fail
    all_goals
     go_meet
     refine⟨congrArg Value.bool (Z0s ?_),rfl⟩
     rw [Z0m]
     simp
     try omega
 case rest=>
  obtain⟨rfl,e0⟩:=hcut
  subst wc
  rw [hfl,show(!true)=false from rfl]
  have hf:=Z2b hfl
  have hf0:=hf.1
  have hf1:=hf.2.1
  obtain⟨fb,r,c,A,F,sd,sn,H,hUU⟩:=h
  have q4:(o.fl / 4 % 2==0)=false:=by simpa using h4
  go_wp2_with (first
   | (go_at_call 66;refine(hP _ Bc).mono ?_;clear hP;rintro e wp ⟨rfl,bp⟩
      replace Bc:=Z00q Bc bp (Nat.le_refl _)
      have vp:=bp.size
      try (replace r1:=r1.later bp)
      try (replace r2:=r2.later bp)
      try clear c11
      try clear c16
      have c11:=r1.cell 1 _ rfl
      have c16:=r1.cell 6 _ rfl)
   | (go_at_call 67;refine(hF _ Bc).mono ?_;clear hF;rintro e u ⟨rfl,rfl⟩
      have q1:=(H.later Bc).c1)
   | (go_at_call 19;refine(Z5o (H.later Bc).fd).mono ?_;rintro e wu ⟨⟨ua,uc,rfl⟩,bu⟩
      replace Bc:=Z00q Bc bu (Nat.le_refl _)
      have vu:=bu.size
      try (replace r1:=r1.later bu)
      try (replace r2:=r2.later bu)
      try clear c11
      try clear c16
      have c11:=r1.cell 1 _ rfl
      have c16:=r1.cell 6 _ rfl)
   | (go_at_call 35;refine(Z0b _ _).mono ?_;rintro e wf ⟨rfl,bf⟩
      replace Bc:=Z00q Bc bf (Nat.le_refl _)
      replace r2:=r2.later bf)
   | (refine Z03 (by rfl) _ _ (by rfl) g2 (by rfl) (anC 47 0 nilV nilV 0 0 0) 47 (Z07 47) (by rfl) _ r2 rfl ?_;intro w9 r9 s9))
  exact bodyPost_ret (Z0a Z06 Tryz.results29 rfl r9 rfl) rfl ⟨anC 47 0 nilV nilV 0 0 0,rfl,Z07 47,(Z0e ⟨fb,r,c,A,F,sd,sn,H,hUU⟩ Bc (by omega) s9)⟩
set_option maxRecDepth 100000
section
variable {w : World} {U : Nat → Prop} {y n : Nat} {Z : Tz}
theorem Zbf (h:Dx w U y Z) (hz:Z.ok n) (hn:n≤900) (o:Oz) (ho:o.wfo) (s:Sv) (hk:o.k=12):
 Calls Tryz.prog 34 #[.pointer (some ⟨y,0,none⟩), .agg (opC o s).toArray] w fun e w'=>RetY e U y Z (Z.wa o.p).2 w w':=by
 have hW:=Z5p h hz ho.p
 by_cases h1:(Z.wa o.p).2=0
 · rw [h1]at hW
   rw [h1]
   exact Zfh h hz hn o s hk (hz.live (Z2d hz h1)) hW
 · exact on_e h hz hn o s h1 hW
theorem Zb9 (h:Dx w U y Z) (hz:Z.ok n) (hn:n≤900) (o:Oz) (ho:o.wfo) (s:Sv) (hk:o.k=13):
 Calls Tryz.prog 34 #[.pointer (some ⟨y,0,none⟩), .agg (opC o s).toArray] w fun e w'=>RetY e U y Z (Z.lsE' o) w w':=by
 have hW:=Z5p h hz ho.p
 by_cases h1:(Z.wa o.p).2=0
 · rw [h1]at hW
   have hl:=Z2d hz h1
   by_cases h2:(Z.nd (Z.wa o.p).1).k=2
   · rw [show Z.lsE' o=0 by unfold Tz.lsE';rw [if_pos h1,if_pos h2]]
     exact Zfj h hz hn o s hk (hz.live hl) h2 (by have:=hz.nl (Z.wa o.p).1;omega) hW
   · rw [show Z.lsE' o=42 by unfold Tz.lsE';rw [if_pos h1,if_neg h2]]
     exact Zfi h hz hn o s hk (hz.live hl) (Z1z hz hl h2) hW
 · rw [show Z.lsE' o=(Z.wa o.p).2 by unfold Tz.lsE';rw [if_neg h1]]
   exact on_e h hz hn o s h1 hW
theorem Zb4 (h:Dx w U y Z) (hz:Z.ok n) (hn:n≤900) (o:Oz) (ho:o.wfo) (s:Sv) (hk:o.k=6):
 Calls Tryz.prog 34 #[.pointer (some ⟨y,0,none⟩), .agg (opC o s).toArray] w fun e w'=>RetY e U y (if Z.cuE o=0 then Z.cuS o else Z) (Z.cuE o) w w':=by
 have hW:=Z5p h hz ho.p
 by_cases h1:(Z.wa o.p).2=0
 · rw [h1]at hW
   have hl:=Z2d hz h1
   have hi:=hz.live hl
   by_cases h2:(Z.nd (Z.wa o.p).1).k=2
   · have e1:Z.cuE o=43:=by unfold Tz.cuE;rw [if_pos h1,if_pos h2]
     rw [e1,if_neg (by decide)]
     exact Zh8 h hz hn o s hk hi h2 hW
   · have hk1:=Z1z hz hl h2
     by_cases h3:o.n < 0
     · have e1:Z.cuE o=2:=by unfold Tz.cuE;rw [if_pos h1,if_neg h2,if_pos h3]
       rw [e1,if_neg (by decide)]
       exact Zh7 h hz hn o s hk hi hk1 h3 hW
     · by_cases h4:48640 < o.n
       · have e1:Z.cuE o=31:=by unfold Tz.cuE;rw [if_pos h1,if_neg h2,if_neg h3,if_pos h4]
         rw [e1,if_neg (by decide)]
         exact Zfk h hz hn o s hk hi hk1 h4 hW
       · have e1:Z.cuE o=0:=by unfold Tz.cuE;rw [if_pos h1,if_neg h2,if_neg h3,if_neg h4]
         rw [e1,if_pos rfl]
         unfold Tz.cuS
         exact Zh9 h hz hn o s hk hi hk1 (hz.dl _) (hz.db _) (N:=o.n.toNat) (by omega) (by omega) hW
 · have e1:Z.cuE o=(Z.wa o.p).2:=by unfold Tz.cuE;rw [if_neg h1]
   rw [e1,if_neg h1]
   exact on_e h hz hn o s h1 hW
theorem Z4s (t:FT):(fdUs t 8).length=8↔fdFr t=8:=Z42 t
theorem Zbb (h:Dx w U y Z) (hz:Z.ok n) (hn:n≤900) (o:Oz) (ho:o.wfo) (s:Sv):
 Calls Tryz.prog 29 #[.pointer (some ⟨y,0,none⟩), .agg (opC o s).toArray] w fun e w'=>RetY e U y (if Z.opE o=0 then Z.opS o else Z) (Z.opE o) w w':=by
 by_cases h0:flOk o.fl=true
 · by_cases h1:Z.paE o.p 43=0
   · obtain⟨p1,p2,p3⟩:=Z1f hz (by decide) h1
     have hdk:(Z.nd (Z.paD o.p)).k≠0:=by rw [p1];decide
     have hP:=Z3g h hz ho.p (by decide) h1
     have hF:=Z3e h (Z18 hz hdk) (lsS o.p)
     have eF:Z.opE o=Z.opF (Z.paI o.p) o.fl:=by unfold Tz.opE;rw [if_pos h0,if_pos h1]
     by_cases h2:Z.paI o.p=0
     · rw [show lk (Z.nd (Z.paD o.p)).nm (lsS o.p)=0 from h2]at hF
       by_cases h4:o.fl / 4 % 2=0
       · have e1:Z.opE o=40:=by rw [eF];unfold Tz.opF;rw [if_pos h2,if_pos h4]
         rw [e1,if_neg (by decide)]
         exact ro_n h hz hn o s ho h0 h4 hP hF
       · by_cases h9:fdFr Z.t=8
         · have e1:Z.opE o=47:=by rw [eF];unfold Tz.opF;rw [if_pos h2,if_neg h4,if_pos h9]
           rw [e1,if_neg (by decide)]
           exact Zhg h hz hn o s ho h0 h4 ((Z4s _).2 h9) hP hF
         · have e1:Z.opE o=0:=by rw [eF];unfold Tz.opF;rw [if_pos h2,if_neg h4,if_neg h9]
           obtain⟨q1,q2⟩:=Z81 hz e1
           rw [e1,if_pos rfl]
           unfold Tz.opS
           have hM:=Z9b h hz hn hdk (lsS o.p) 1
           have eJ:Z.opJ (Z.paI o.p)=Z.top:=by unfold Tz.opJ;rw [if_pos h2]
           have e1':Z.opS1 (Z.paD o.p) (lsS o.p) (Z.paI o.p)=Z.mkN 1 (Z.paD o.p) (lsS o.p):=by unfold Tz.opS1;rw [if_pos h2]
           have hjl:=q1.live (by rw [q2];decide)
           rw [eJ,e1']at hjl
           rw [eJ,e1']
           exact Zhh h hz hn o s ho h0 h4 (fun e=>h9 ((Z4s _).1 e)) hjl hP hF hM
     · have hik:=(p3.resolve_left h2).2
       have hi:=hz.live hik
       by_cases h8:o.fl / 8 % 2=1
       · have e1:Z.opE o=41:=by rw [eF];unfold Tz.opF;rw [if_neg h2,if_pos h8]
         rw [e1,if_neg (by decide)]
         exact ro_x h hz hn o s ho h0 h2 h8 hP hF
       · by_cases h5:(Z.nd (Z.paI o.p)).k=2
         · have e1:Z.opE o=43:=by rw [eF];unfold Tz.opF;rw [if_neg h2,if_neg h8,if_pos h5]
           rw [e1,if_neg (by decide)]
           exact ro_d h hz hn o s ho h0 hi h8 h5 hP hF
         · have hk1:=Z1z hz hik h5
           by_cases h9:fdFr Z.t=8
           · have e1:Z.opE o=47:=by rw [eF];unfold Tz.opF;rw [if_neg h2,if_neg h8,if_neg h5,if_pos h9]
             rw [e1,if_neg (by decide)]
             exact ro_g h hz hn o s ho h0 hi h8 hk1 ((Z4s _).2 h9) hP hF
           · have e1:Z.opE o=0:=by rw [eF];unfold Tz.opF;rw [if_neg h2,if_neg h8,if_neg h5,if_neg h9]
             rw [e1,if_pos rfl]
             unfold Tz.opS
             rw [show Z.opJ (Z.paI o.p)=Z.paI o.p by unfold Tz.opJ;rw [if_neg h2],show Z.opS1 (Z.paD o.p) (lsS o.p) (Z.paI o.p)=Z by unfold Tz.opS1;rw [if_neg h2]]
             exact ro_y h hz hn o s ho h0 hi h8 hk1 (fun e=>h9 ((Z4s _).1 e)) hi rfl rfl hP hF
   · have e1:Z.opE o=Z.paE o.p 43:=by unfold Tz.opE;rw [if_pos h0,if_neg h1]
     rw [e1,if_neg h1]
     exact ro_p h hz hn o s ho h0 h1 (Z3f h hz ho.p (by decide))
 · have e1:Z.opE o=2:=by unfold Tz.opE;rw [if_neg h0]
   rw [e1,if_neg (by decide)]
   exact ro_f h hz hn o s ho (by simpa using h0)
end
set_option maxRecDepth 100000
section
variable {ops : Array Oper} {rest : List Oper} {o : Oper} {a : Act} {w : World} {Q : Exit → Act → World → Prop}
theorem Z0i {E:Prop} {K:Act→World→Prop} (hgd:o.guard=none) (ho:o.op= .alloc 97)
 (h:∀ g w',w.heap.size≤g→g < w'.heap.size→Cs w' g Fl.zero.cs→Below w.heap.size w w'→K (a.put o.dst (.pointer (some ⟨g,0,none⟩))) w'):if Region.wanted o (yielded ops a.tmps)=true then Oper.wp Tryz.prog o a w K Q else E:=
 Z0t 97 3 _ Z2e hgd ho h
theorem Z0j {E:Prop} {K:Act→World→Prop} (hgd:o.guard=none) (x y:Operand) (ho:o.op= .store 97 x y) (g:Nat) (hx:a.eval x= .pointer (some ⟨g,0,none⟩)) (f:Fl) (hy:a.eval y= .agg f.cs.toArray) (cs:List Value) (hR:Cs w g cs) (hl:cs.length=3)
 (h:∀ w',Cs w' g f.cs→Stp (fun x=>x=g) w w'→K (a.put o.dst undef) w'):if Region.wanted o (yielded ops a.tmps)=true then Oper.wp Tryz.prog o a w K Q else E:=
 Z0n 97 3 _ Z2e hgd x y ho g hx f.cs hy rfl f.cs_one cs hR hl h
end
end Go.Proofs.YtdnjddpfcgginaaGreat
