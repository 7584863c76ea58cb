/-
  Texts of my own, joined: no statement is proved here.
-/
import Derived.Test.YtogdffonjhghcaaGreatDoorJal
set_option linter.unusedSimpArgs false
set_option linter.unusedVariables false
namespace Go.Proofs.YtogdffonjhghcaaGreatDoor
open Go.ChangeShapes Go.WideShapes Go.ChangeAt Go.RowKit
set_option maxRecDepth 100000
set_option maxRecDepth 100000 in
theorem open_no (b:Blk) (w:World) (hk:isK (byt b 54)=false):
    Calls Tryz.prog 111 #[.agg b.cs.toArray] w fun e w'=>e= .returned (.tuple #[.int .i64 (oKS b:Nat), .agg (oP b).cs.toArray, .int .u32 (oT b:Nat)])∧Below w.heap.size w w':=by
  have hb:=b.len
  have hr:rightB b=false:=by unfold rightB;rw [hk];rfl
  have e1:oKS b=0:=by unfold oKS;rw [hr];rfl
  have e2:oP b=Ld.zero:=by unfold oP;rw [hr];rfl
  have e3:oT b=0:=by unfold oT;rw [hr];rfl
  rw [e1,e2,e3]
  clear e1 e2 e3 hr
  have hl:=byt_lt b 54
  go_enter Tryz.func111,Tryz.ntmps111
  go_wp2_with (first
    | (refine at_box 64 64 arrB (by rfl) _ (by rfl) b.l (by rfl) hb ?_;intro gb w1 a1 z1 r1 b1)
    | (refine at_new 41 54 arrL (by rfl) (by rfl) ?_;intro gr w2 a2 z2 r2 b2;have c54:w2.cell? ⟨gb,54,none⟩=some (.int .u8 (byt b 54:Nat)):=(r1.later b2).cell 54 (by omega))
    | (go_at_call 110;refine(isKind_any _ _).mono ?_;rintro e w3 ⟨rfl,rfl⟩;rw [hk])
    | (refine at_bldL (by rfl) (by rfl) ?_)
    | (refine at_put 41 54 arrL (by rfl) _ _ (by rfl) gr (by rfl) Ld.zero.l (by rfl) Ld.zero.len _ r2 (by simp) ?_;intro w9 r9 s9))
  have S2:Stp (fun x=>w.heap.size≤x) w w2:=Stp.of_below (bnext b1 b2 (Nat.le_refl _)) _
  have hgr:w.heap.size≤gr:=by have:=b1.size;omega
  refine bodyPost_ret (retTAt arrL Tryz.results111 rfl rfl rfl r9 Ld.zero.len) rfl ⟨rfl,(S2.next s9 (fun x hx=> .inl (by subst hx;exact hgr))).below (Nat.le_refl _) (fun _ h=>h)⟩
theorem le4_ints (l:List UInt8) (k:Nat):le4 (ints l) k=((get4 l k:Nat):Int):=by
  unfold le4 get4 num4
  rw [ints_getD,ints_getD,ints_getD,ints_getD];omega
theorem get32_56 (g:Nat) (l:List UInt8) (w:World) (h:Row w g l) (hl:l.length=64):
    Calls Tryz.prog 160 #[.slice (some ⟨g,0,none⟩) 64 64, .int .i64 56] w fun e w'=>e= .returned (.tuple #[.int .u32 (get4 l 56:Nat), .int .i64 0])∧w=w':=by
  have hb:=h.bs0 64 64 (by omega) (Nat.le_refl _) (by decide)
  rw [List.take_of_length_le (by omega)]at hb
  rw [← le4_ints]
  exact get32_ok _ 64 64 _ 56 w hb (by omega)
theorem open_is (b:Blk) (hk:isK (byt b 54)=true) (d:Bool) (hd:decide (b=sealK (byt b 54) (trn b) (ldOf b))=d):
    oKS b=(if d then byt b 54 else 0)∧oP b=(if d then ldOf b else Ld.zero)∧oT b=(if d then trn b else 0):=by
  have:rightB b=d:=by unfold rightB;rw [hk,hd];rfl
  unfold oKS oP oT;rw [this];exact⟨rfl,rfl,rfl⟩
set_option maxRecDepth 100000 in
theorem open_yes (b:Blk) (w:World) (hk:isK (byt b 54)=true):
    Calls Tryz.prog 111 #[.agg b.cs.toArray] w fun e w'=>e= .returned (.tuple #[.int .i64 (oKS b:Nat), .agg (oP b).cs.toArray, .int .u32 (oT b:Nat)])∧Below w.heap.size w w':=by
  have hb:=b.len
  have ho:=open_is b hk
  have hl:=byt_lt b 54
  have hk2:1≤byt b 54∧byt b 54≤6:=by unfold isK at hk;simp at hk;omega
  have ht:trn b < 4294967296:=get4_lt _ _
  have hld:(ldOf b).l=b.l.take 54:=rfl
  have tok:True:=trivial
  go_enter Tryz.func111,Tryz.ntmps111
  go_wp2_with (first
    | (refine at_box 64 64 arrB (by rfl) _ (by rfl) b.l (by rfl) hb ?_;intro gb w1 a1 z1 r1 b1)
    | (have _t:=tok;refine at_new 41 54 arrL (by rfl) (by rfl) ?_;intro gr w2 a2 z2 r2 b2;clear _t tok;have c54:w2.cell? ⟨gb,54,none⟩=some (.int .u8 (byt b 54:Nat)):=(r1.later b2).cell 54 (by omega))
    | (refine at_new 41 54 arrL (by rfl) (by rfl) ?_;intro gp w3 a3 z3 r3 b3)
    | (go_at_call 110;refine(isKind_any _ _).mono ?_;rintro e w3 ⟨rfl,rfl⟩;rw [hk]))
  have u3:=(r1.later b2).later b3
  have q3:=r2.later b3
  have B3:Below w.heap.size w w3:=bnext (bnext b1 b2 (Nat.le_refl _)) b3 (Nat.le_refl _)
  have n1:gb≠gp:=by omega
  have n2:gr≠gp:=by omega
  have n3:gb≠gr:=by omega
  have hgr:w.heap.size≤gr:=by have:=b1.size;omega
  have hgp:w.heap.size≤gp:=by have:=b1.size;have:=b2.size;omega
  clear r1 r2 b1 b2 b3 a1 a2 a3 z1 z2 z3 c54
  clear w1 w2
  simp only [Act.put,List.setIfInBounds_toArray,List.set_cons_zero,List.set_cons_succ]
  go_region_law (refine step_copyR rfl (.tmp 16) (.tmp 17) rfl gp 0 54 54 gb 54 64 (by simp [Act.eval,Act.put]) (by simp [Act.eval,Act.put]) (List.replicate 54 0) b.l (r3.later (by go_grown)) (u3.later (by go_grown)) (by omega) (by simp) (by omega) ?_;intro w4 r4 s4)
  have e4:splice (List.replicate 54 (0:UInt8)) 0 (b.l.take 54)=(ldOf b).l:=by
    have:(b.l.take 54).length=54:=by simp [hb]
    unfold splice;rw [this,hld];simp
  rw [e4]at r4
  have u4':Row w4 gb b.l:=(u3.later (w':=w3.drew) (by go_grown)).step s4 n1
  have q4:Row w4 gr (List.replicate 54 0):=(q3.later (w':=w3.drew) (by go_grown)).step s4 n2
  have S4:Stp (fun x=>w.heap.size≤x) w w4:=(Stp.of_below B3 _).drew.next s4 (fun x hx=> .inl (by subst hx;exact hgp))
  clear r3 u3 q3 B3 s4 e4 hld
  clear w3
  go_wp2_with (first
    | (go_at_call 160;refine(get32_56 gb b.l _ u4' hb).mono ?_;rintro e w5 ⟨rfl,rfl⟩))
  have et:get4 b.l 56=trn b:=rfl
  rw [et];clear et
  have hS:∀ w',Below w4.heap.size w4 w'→(Below w4.heap.size w4 w'∧Row w' gb b.l∧Row w' gp (ldOf b).l):=fun w' h=>⟨h,u4'.later h,r4.later h⟩
  generalize hd:decide (b=sealK (byt b 54) (trn b) (ldOf b))=d at *
  obtain⟨o1,o2,o3⟩:=ho d rfl
  have hq:=eqB b (sealK (byt b 54) (trn b) (ldOf b))
  rw [hd]at hq
  have hgd:=guardB
  have hlp:=(ldOf b).len
  refine wp_region_held_drew (S:=fun w'=>Below w4.heap.size w4 w'∧Row w' gb b.l∧Row w' gp (ldOf b).l) (by kernel_rfl) (hS _ (Below.refl _ _).drew) (fun hHeld=>?_)
  refine tk (i:=0) (oi:=⟨some 24, .load 64 (.tmp 1),64,_,#[],none⟩) (v:= .agg b.cs.toArray) rfl
    (yields_row 64 64 arrB (by rfl) (.tmp 1) rfl gb (by rfl) b.l hb (fun u hu=>hu.2.1)) hHeld ?_
  try simp only [zp,zn,zq,zr,zs]
  refine tk (i:=1) (oi:=⟨some 25, .move (.tmp 5),3,_,#[],none⟩) (v:= .int .i64 (byt b 54:Nat)) rfl (Or.inl ⟨by rfl,?_⟩) hHeld ?_
  · intro u hu
    go_simp
  try simp only [zp,zn,zq,zr,zs]
  refine tk (i:=2) (oi:=⟨some 26, .move (.tmp 7),82,_,#[],none⟩) (v:= .int .u32 (trn b:Nat)) rfl (Or.inl ⟨by rfl,?_⟩) hHeld ?_
  · intro u hu
    go_simp
  try simp only [zp,zn,zq,zr,zs]
  refine tk (i:=3) (oi:=⟨some 27, .load 41 (.tmp 6),41,_,#[],none⟩) (v:= .agg (ldOf b).cs.toArray) rfl
    (yields_row 41 54 arrL (by rfl) (.tmp 6) rfl gp (by rfl) (ldOf b).l hlp (fun u hu=>hu.2.2)) hHeld ?_
  try simp only [zp,zn,zq,zr,zs]
  refine wpAnyH_ready (rs:= [4]) (by kernel_rfl) (by simp) ?_
  refine AllReadyH.cons (o:=⟨some 28, .call { callee:=Callee.value (.func 161),args:=#[.tmp 25, .tmp 26, .tmp 27],argTypes:=#[3,82,41]},64,_,#[⟨1, .data⟩,⟨2, .data⟩,⟨3, .data⟩],none⟩) rfl (fun K hK=>?_) AllReadyH.nil
  go_simp
  refine(sealed_any _ _ _ _ hk2.1 hk2.2 ht).mono ?_
  rintro e w5 ⟨rfl,b5⟩
  try go_wp2_with fail
  have B5:Below w4.heap.size w4 w5:=bnext ((Below.refl w4.heap.size w4).drew) b5 (Nat.le_refl _)
  refine hK.out _ _ (hS _ B5) (fun hHeld=>?_)
  clear hK K b5
  try simp only [zp,zn,zq,zr,zs]
  refine tk (i:=5) (oi:=⟨some 29, .binOp BinOp.neq 64 (.tmp 24) (.tmp 28) 64,4,_,#[⟨0, .data⟩,⟨4, .data⟩],none⟩) (v:= .bool (!d)) rfl (Or.inl ⟨by rfl,?_⟩) hHeld ?_
  · intro u hu
    go_simp
  try simp only [zp,zn,zq,zr,zs]
  refine wpAnyH_done (by kernel_rfl) ?_ _
  have r5:=r4.later B5
  have q5:=q4.later B5
  have S5:=S4.next (Stp.of_below B5 (fun _=>False)) (fun _ h=>h.elim)
  clear hHeld hS hq u4' r4 q4 S4 B5 ho hd
  clear hHeld
  cases d
  · have hE:Hid (oKS b=0∧oP b=Ld.zero∧oT b=0):=⟨o1,o2,o3⟩
    clear o1 o2 o3
    go_wp2_with (first
      | (refine at_bldL (by rfl) (by rfl) ?_)
      | (refine at_put 41 54 arrL (by rfl) _ _ (by rfl) gr (by rfl) Ld.zero.l (by rfl) Ld.zero.len _ q5 (by simp) ?_;intro w9 r9 s9))
    refine bodyPost_ret (retTAt arrL Tryz.results111 rfl rfl rfl r9 Ld.zero.len) rfl ⟨by obtain⟨q1,q2,q3⟩:=hE.out;rw [q1,q2,q3];rfl,(S5.next s9 (fun x hx=> .inl (by subst hx;exact hgr))).below (Nat.le_refl _) (fun _ h=>h)⟩
  · have hE:Hid (oKS b=byt b 54∧oP b=ldOf b∧oT b=trn b):=⟨o1,o2,o3⟩
    clear o1 o2 o3
    go_wp2_with fail
    refine wp_region_held_drew (S:=fun w'=>Row w' gp (ldOf b).l) (by kernel_rfl) (r5.later (Below.refl _ _).drew) (fun hHeld=>?_)
    refine tk (i:=0) (oi:=⟨some 31, .move (.tmp 5),3,_,#[],none⟩) (v:= .int .i64 (byt b 54:Nat)) rfl (Or.inl ⟨by rfl,?_⟩) hHeld ?_
    · intro u hu
      go_simp
    try simp only [zp,zn,zq,zr,zs]
    refine tk (i:=1) (oi:=⟨some 32, .load 41 (.tmp 6),41,_,#[⟨3, .gcOnly .lateStores⟩],none⟩) (v:= .agg (ldOf b).cs.toArray) rfl
      (yields_row 41 54 arrL (by rfl) (.tmp 6) rfl gp (by rfl) (ldOf b).l hlp (fun u hu=>hu)) hHeld ?_
    try simp only [zp,zn,zq,zr,zs]
    refine tk (i:=2) (oi:=⟨some 33, .move (.tmp 7),82,_,#[⟨4, .gcOnly .lateStores⟩],none⟩) (v:= .int .u32 (trn b:Nat)) rfl (Or.inl ⟨by rfl,?_⟩) hHeld ?_
    · intro u hu
      go_simp
    try simp only [zp,zn,zq,zr,zs]
    refine tk (i:=3) (oi:=⟨some 2, .assign (.tmp 31),3,_,#[⟨0, .data⟩,⟨0, .phase⟩,⟨1, .textOnly .lateStores⟩,⟨2, .textOnly .lateStores⟩],none⟩) (v:= .int .i64 (byt b 54:Nat)) rfl (Or.inl ⟨by rfl,?_⟩) hHeld ?_
    · intro u hu
      go_simp
    try simp only [zp,zn,zq,zr,zs]
    refine wpAnyH_ready (rs:= [4]) (by kernel_rfl) (by simp) ?_
    refine AllReadyH.cons (o:=⟨none, .store 41 (.tmp 3) (.tmp 32),0,_,#[⟨1, .data⟩,⟨3, .chain⟩,⟨0, .phase⟩,⟨1, .phase⟩,⟨2, .textOnly .lateStores⟩,⟨3, .phase⟩],none⟩) rfl (fun K hK=>?_) AllReadyH.nil
    refine step_put 41 54 arrL rfl (.tmp 3) (.tmp 32) rfl gr (by rfl) (ldOf b).l (by rfl) hlp (List.replicate 54 0) (q5.later (Below.refl _ _).drew) (by simp) ?_
    intro w9 r9 s9
    refine hK.out _ _ (hHeld.step s9 (Ne.symm n2)) (fun hHeld=>?_)
    clear hK K
    try simp only [Act.put]
    refine tk (i:=5) (oi:=⟨some 4, .assign (.tmp 33),82,_,#[⟨2, .data⟩,⟨4, .chain⟩,⟨0, .phase⟩,⟨1, .phase⟩,⟨2, .phase⟩,⟨3, .phase⟩,⟨4, .phase⟩],none⟩) (v:= .int .u32 (trn b:Nat)) rfl (Or.inl ⟨by rfl,?_⟩) hHeld ?_
    · intro u hu
      go_simp
    try simp only [zp,zn,zq,zr,zs]
    refine wpAnyH_done (by kernel_rfl) ?_ _
    go_wp2_with fail
    refine bodyPost_ret (retTAt arrL Tryz.results111 rfl rfl rfl r9 hlp) rfl ⟨by obtain⟨q1,q2,q3⟩:=hE.out;rw [q1,q2,q3];rfl,((S5.drew).next s9 (fun x hx=> .inl (by subst hx;exact hgr))).below (Nat.le_refl _) (fun _ h=>h)⟩
theorem open_any (b:Blk) (w:World):
    Calls Tryz.prog 111 #[.agg b.cs.toArray] w fun e w'=>e= .returned (.tuple #[.int .i64 (oKS b:Nat), .agg (oP b).cs.toArray, .int .u32 (oT b:Nat)])∧Below w.heap.size w w':=by
  cases hk:isK (byt b 54)
  · exact open_no b w hk
  · exact open_yes b w hk
set_option maxRecDepth 100000
def pBS (k:Int) (t:Nat) (p:Ld):Blk:=if isK k then sealK k.toNat t p else Blk.zero
def pE (k:Int):Int:=if isK k then 0 else 2
def gES (k:Int) (b:Blk):Int:=if isK k then(if (oKS b:Int)=k then 0 else 21)else 2
def gP (k:Int) (b:Blk):Ld:=if gES k b=0 then oP b else Ld.zero
def gT (k:Int) (b:Blk):Nat:=if gES k b=0 then oT b else 0
def nT (b:Blk):Nat:=(oT b+1) % 4294967296
theorem nT_lt (b:Blk):nT b < 4294967296:=by unfold nT;omega
theorem isK_nat {k:Int} (h:isK k=true):∃ n:Nat,k=(n:Int)∧1≤n∧n≤6:=by
  unfold isK at h;simp at h
  exact⟨k.toNat,by omega,by omega,by omega⟩
theorem isK_of {n:Nat} (h1:1≤n) (h6:n≤6):isK (n:Int)=true:=by unfold isK;simp;omega
set_option maxRecDepth 100000 in
theorem put_anyS (k:Int) (t:Nat) (p:Ld) (w:World) (ht:t < 4294967296):
    Calls Tryz.prog 257 #[.int .i64 k, .int .u32 (t:Int), .agg p.cs.toArray] w fun e w'=>e= .returned (.tuple #[.agg (pBS k t p).cs.toArray, .int .i64 (pE k)])∧Below w.heap.size w w':=by
  have hp:=p.len
  cases hk:isK k
  · have hE:Hid (pBS k t p=Blk.zero∧pE k=2):=⟨by unfold pBS;rw [hk];rfl,by unfold pE;rw [hk];rfl⟩
    go_enter Tryz.func257,Tryz.ntmps257
    go_wp2_with (first
      | (refine at_box 41 54 arrL (by rfl) _ (by rfl) p.l (by rfl) hp ?_;intro g1 w1 a1 z1 r1 b1)
      | (refine at_new 64 64 arrB (by rfl) (by rfl) ?_;intro gr w2 a2 z2 r2 b2)
      | (go_at_call 110;refine(isKind_any _ _).mono ?_;rintro e w3 ⟨rfl,rfl⟩;rw [hk])
      | (refine at_bldB (by rfl) (by rfl) ?_)
      | (refine at_put 64 64 arrB (by rfl) _ _ (by rfl) gr (by rfl) Blk.zero.l (by rfl) Blk.zero.len _ r2 (by simp) ?_;intro w9 r9 s9))
    have S2:Stp (fun x=>w.heap.size≤x) w w2:=Stp.of_below (bnext b1 b2 (Nat.le_refl _)) _
    have hgr:w.heap.size≤gr:=by have:=b1.size;omega
    refine bodyPost_ret (retAt arrB Tryz.results257 rfl rfl r9 Blk.zero.len) rfl ⟨by obtain⟨q1,q2⟩:=hE.out;rw [q1,q2];rfl,(S2.next s9 (fun x hx=> .inl (by subst hx;exact hgr))).below (Nat.le_refl _) (fun _ h=>h)⟩
  · obtain⟨n,rfl,h1,h6⟩:=isK_nat hk
    have hE:Hid (pBS n t p=sealK n t p∧pE n=0):=⟨by unfold pBS;rw [hk];rfl,by unfold pE;rw [hk];rfl⟩
    have hlb:=(sealK n t p).len
    go_enter Tryz.func257,Tryz.ntmps257
    go_wp2_with (first
      | (refine at_box 41 54 arrL (by rfl) _ (by rfl) p.l (by rfl) hp ?_;intro g1 w1 a1 z1 r1 b1)
      | (refine at_new 64 64 arrB (by rfl) (by rfl) ?_;intro gr w2 a2 z2 r2 b2)
      | (go_at_call 110;refine(isKind_any _ _).mono ?_;rintro e w3 ⟨rfl,rfl⟩;rw [hk])
      | (refine at_get 41 54 arrL (by rfl) _ (by rfl) g1 (by rfl) _ (r1.later b2) hp ?_)
      | (go_at_call 161;refine(sealed_any n t p _ h1 h6 ht).mono ?_;rintro e w4 ⟨rfl,b4⟩)
      | (refine at_put 64 64 arrB (by rfl) _ _ (by rfl) gr (by rfl) (sealK n t p).l (by rfl) hlb _ (r2.later b4) (by simp) ?_;intro w9 r9 s9))
    have S4:Stp (fun x=>w.heap.size≤x) w w4:=Stp.of_below (bnext (bnext b1 b2 (Nat.le_refl _)) b4 (Nat.le_refl _)) _
    have hgr:w.heap.size≤gr:=by have:=b1.size;omega
    refine bodyPost_ret (retAt arrB Tryz.results257 rfl rfl r9 hlb) rfl ⟨by obtain⟨q1,q2⟩:=hE.out;rw [q1,q2];rfl,(S4.next s9 (fun x hx=> .inl (by subst hx;exact hgr))).below (Nat.le_refl _) (fun _ h=>h)⟩
set_option maxRecDepth 100000 in
theorem kind_any (b:Blk) (w:World):
    Calls Tryz.prog 254 #[.agg b.cs.toArray] w fun e w'=>e= .returned (.int .i64 (oKS b:Nat))∧Below w.heap.size w w':=by
  have hb:=b.len
  have hlp:=(oP b).len
  go_enter Tryz.func254,Tryz.ntmps254
  go_wp2_with (first
    | (refine at_box 64 64 arrB (by rfl) _ (by rfl) b.l (by rfl) hb ?_;intro gb w1 a1 z1 r1 b1)
    | (refine at_get 64 64 arrB (by rfl) _ (by rfl) gb (by rfl) _ r1 hb ?_)
    | (go_at_call 111;refine(open_any b _).mono ?_;rintro e w2 ⟨rfl,b2⟩)
    | (refine at_new 41 54 arrL (by rfl) (by rfl) ?_;intro gp w3 a3 z3 r3 b3)
    | (refine at_put 41 54 arrL (by rfl) _ _ (by rfl) gp (by rfl) (oP b).l (by rfl) hlp _ r3 (by simp) ?_;intro w9 r9 s9))
  have S3:Stp (fun x=>w.heap.size≤x) w w3:=Stp.of_below (bnext (bnext b1 b2 (Nat.le_refl _)) b3 (Nat.le_refl _)) _
  have hgp:w.heap.size≤gp:=by have:=b1.size;have:=b2.size;omega
  have S9:=S3.next s9 (fun x hx=> .inl (by subst hx;exact hgp))
  go_returns
  exact⟨rfl,S9.below (Nat.le_refl _) (fun _ h=>h)⟩
set_option maxRecDepth 100000
theorem cells_kk {n:Nat} (h:n≤6):cells [UInt8.ofNat n,UInt8.ofNat (255 - n)]= [.int .u8 (n:Int), .int .u8 (255 - (n:Int))]:=by
  unfold cells
  simp only [List.map_cons,List.map_nil,Extern.Stop.cell]
  rw [u8_to (by omega),u8_to (by omega),show Int.ofNat (255 - n)=255 - (n:Int)from by have:Int.ofNat (255 - n)=((255 - n:Nat):Int):=rfl;omega]
  rfl
theorem news_row (w:World) (l:List UInt8) (t:TypeId) (cs:List Value) (h:cells l=cs):∀ j u,(cells l)[j]? =some u→(w.alloc (.cells cs.toArray t)).cell? ((⟨w.heap.size,0,none⟩:Addr).add j)=some u:=by
  subst h
  intro j u hj
  rw [Addr.add_mid]
  exact(Row.made w l t).range j u hj
set_option maxRecDepth 100000 in
set_option maxHeartbeats 2000000 in
theorem rput_anyS (k:Int) (t:Nat) (p:Ld) (w:World) (ht:t < 4294967296):
    Calls Tryz.prog 64 #[.int .i64 k, .int .u32 (t:Int), .agg p.cs.toArray] w fun e w'=>e= .returned (.tuple #[.agg (pBS k t p).cs.toArray, .int .i64 (pE k)])∧Below w.heap.size w w':=by
  have hp:=p.len
  cases hk:isK k
  · have hE:Hid (pBS k t p=Blk.zero∧pE k=2):=⟨by unfold pBS;rw [hk];rfl,by unfold pE;rw [hk];rfl⟩
    go_enter Tryz.func64,Tryz.ntmps64
    go_wp2_with (first
      | (refine at_box 41 54 arrL (by rfl) _ (by rfl) p.l (by rfl) hp ?_;intro g1 w1 a1 z1 r1 b1)
      | (refine at_new 64 64 arrB (by rfl) (by rfl) ?_;intro gr w2 a2 z2 r2 b2)
      | (go_at_call 115;refine(may_any _ _).mono ?_;rintro e w3 ⟨rfl,rfl⟩;rw [hk])
      | (refine at_bldB (by rfl) (by rfl) ?_)
      | (refine at_put 64 64 arrB (by rfl) _ _ (by rfl) gr (by rfl) Blk.zero.l (by rfl) Blk.zero.len _ r2 (by simp) ?_;intro w9 r9 s9))
    have S2:Stp (fun x=>w.heap.size≤x) w w2:=Stp.of_below (bnext b1 b2 (Nat.le_refl _)) _
    have hgr:w.heap.size≤gr:=by have:=b1.size;omega
    refine bodyPost_ret (retAt arrB Tryz.results64 rfl rfl r9 Blk.zero.len) rfl ⟨by obtain⟨q1,q2⟩:=hE.out;rw [q1,q2];rfl,(S2.next s9 (fun x hx=> .inl (by subst hx;exact hgr))).below (Nat.le_refl _) (fun _ h=>h)⟩
  · obtain⟨n,rfl,h1,h6⟩:=isK_nat hk
    have hE:Hid (pBS n t p=sealK n t p∧pE n=0):=⟨by unfold pBS;rw [hk];rfl,by unfold pE;rw [hk];rfl⟩
    have hlb:=(sealK n t p).len
    go_enter Tryz.func64,Tryz.ntmps64
    have t1:True:=trivial
    have t2:True:=trivial
    have t3:True:=trivial
    have hsum:sumOf (ints (hdL n t p.l)) < 4294967296:=by have:=sum_lt (ints (hdL n t p.l));omega
    have hS:Hid ((p.l++ [UInt8.ofNat n,UInt8.ofNat (255 - n)])++u4 t=hdL n t p.l):=by show _=_;unfold hdL;rw [List.append_assoc]
    have hT:Hid (hdL n t p.l++u4 (sumOf (ints (hdL n t p.l)))=(sealK n t p).l):=rfl
    have hh:(hdL n t p.l).length=60:=by unfold hdL;simp [hp,u4]
    generalize hD:hdL n t p.l=D at *
    generalize hq:sumOf (ints D)=S at *
    go_wp2_with (first
      | (refine at_box 41 54 arrL (by rfl) _ (by rfl) p.l (by rfl) hp ?_;intro g1 w1 a1 z1 r1 b1)
      | (refine at_new 64 64 arrB (by rfl) (by rfl) ?_;intro gr w2 a2 z2 r2 b2)
      | (go_at_call 115;refine(may_any _ _).mono ?_;rintro e w3 ⟨rfl,rfl⟩;rw [hk])
      | (have _t:=t1;at_builtin;refine at_app (B:=w2.heap.size) rfl _ _ rfl 0 rfl (Own.made w2 (Nat.le_refl _)) rfl ⟨g1,0,none⟩ 54 54 p.l rfl hp 54 rfl (fun j u hj=>by rw [Addr.add_mid];exact(((r1.later b2).later ((Below.refl _ w2).alloc (Nat.le_refl _) (Obj.cells #[] 5))).range j u hj)) (by simp;omega) (by simp) ?_
         intro g3 c3 w3 o3 s3;rw [List.nil_append]at o3;clear _t t1)
      | (have _t:=t2;at_builtin;refine at_app (B:=w2.heap.size) rfl _ _ rfl 54 rfl (o3.later ((Below.refl _ w3).alloc (Nat.le_refl _) _)) hp ⟨w3.heap.size,0,none⟩ 2 2 [UInt8.ofNat n,UInt8.ofNat (255 - n)] rfl rfl 56 rfl (news_row w3 _ 5 _ (cells_kk h6)) (by simp;omega) (by have:=s3.size;simp at this ⊢;omega) ?_
         intro g4 c4 w4 o4 s4;clear _t t2)
      | (go_at_call 124;have _t:=t3;refine(rput32_any (t:Int) w4 (by omega) (by omega)).mono ?_;rintro e w5 ⟨rfl,rfl⟩)
      | (have _t:=t3;at_builtin;refine at_app (B:=w2.heap.size) rfl _ _ rfl 56 rfl (o4.later ((Below.refl _ w4).alloc (Nat.le_refl _) _)) (by simp [hp]) ⟨w4.heap.size,0,none⟩ 4 4 (u4 t) rfl rfl 60 rfl (news_row w4 _ 5 _ (cells_u4 ht)) (by simp [hp,u4]) (by have:=s3.size;have:=s4.size;simp at *;omega) ?_
         intro g6 c6 w6 o6 s6;rw [hS.out]at o6;have d6:=o6.bs;rw [hh]at d6;clear _t t3)
      | (go_at_call 117;refine(rof_anyK _ 60 c6 _ w6 d6).mono ?_;rintro e w7 ⟨rfl,rfl⟩;rw [hq])
      | (go_at_call 124;refine(rput32_any (S:Int) w6 (by omega) (by omega)).mono ?_;rintro e w8 ⟨rfl,rfl⟩)
      | (at_builtin;refine at_app (B:=w2.heap.size) rfl _ _ rfl 60 rfl (o6.later ((Below.refl _ w6).alloc (Nat.le_refl _) _)) hh ⟨w6.heap.size,0,none⟩ 4 4 (u4 S) rfl rfl 64 rfl (news_row w6 _ 5 _ (cells_u4 hsum)) (by simp [hh,u4]) (by have:=s3.size;have:=s4.size;have:=s6.size;simp at *;omega) ?_
         intro g8 c8 w8 o8 s8;rw [hT.out]at o8
         have q8:Row w8 gr (List.replicate 64 0):=((((((r2.later ((Below.refl _ w2).alloc (Nat.le_refl _) _)).step s3 (by omega)).later ((Below.refl _ w3).alloc (Nat.le_refl _) _)).step s4 (by omega)).later ((Below.refl _ w4).alloc (Nat.le_refl _) _)).step s6 (by omega)).later ((Below.refl _ w6).alloc (Nat.le_refl _) _) |>.step s8 (by omega))
      | (refine at_arr 64 64 arrB (by rfl) _ (by rfl) _ 64 c8 (by rfl) (Nat.le_refl _) ?_)
      | (refine at_getR 64 64 arrB (by rfl) _ (by rfl) g8 (by rfl) _ o8.range hlb ?_)
      | (refine at_put 64 64 arrB (by rfl) _ _ (by rfl) gr (by rfl) (sealK n t p).l (by rfl) hlb _ q8 (by simp) ?_;intro w9 r9 s9))
    have F2:∀ (x:Nat),w2.heap.size≤x→w.heap.size≤x:=fun x hx=>by have:=b1.size;have:=b2.size;omega
    have S2:Stp (fun x=>w.heap.size≤x) w w2:=Stp.of_below (bnext b1 b2 (Nat.le_refl _)) _
    have S8:Stp (fun x=>w.heap.size≤x) w w8:=((((((((S2.alloc _).next s3 (fun x h=> .inl (F2 x h))).alloc _).next s4 (fun x h=> .inl (F2 x h))).alloc _).next s6 (fun x h=> .inl (F2 x h))).alloc _).next s8 (fun x h=> .inl (F2 x h)))
    have hgr:w.heap.size≤gr:=by have:=b1.size;omega
    refine bodyPost_ret (retAt arrB Tryz.results64 rfl rfl r9 hlb) rfl ⟨by obtain⟨q1,q2⟩:=hE.out;rw [q1,q2];rfl,(S8.next s9 (fun x hx=> .inl (by subst hx;exact hgr))).below (Nat.le_refl _) (fun _ h=>h)⟩
set_option maxRecDepth 100000
set_option maxRecDepth 100000 in
set_option maxHeartbeats 2000000 in
theorem get_anyS (k:Int) (b:Blk) (w:World):
    Calls Tryz.prog 50 #[.int .i64 k, .agg b.cs.toArray] w fun e w'=>e= .returned (.tuple #[.agg (gP k b).cs.toArray, .int .u32 (gT k b:Nat), .int .i64 (gES k b)])∧Below w.heap.size w w':=by
  have hb:=b.len
  have hlp:=(oP b).len
  cases hk:isK k
  · have he:gES k b=2:=by unfold gES;rw [hk];rfl
    have hE:Hid (gP k b=Ld.zero∧gT k b=0∧gES k b=2):=⟨by unfold gP;rw [he];rfl,by unfold gT;rw [he];rfl,he⟩
    clear he
    go_enter Tryz.func50,Tryz.ntmps50
    go_wp2_with (first
      | (refine at_box 64 64 arrB (by rfl) _ (by rfl) b.l (by rfl) hb ?_;intro gb w1 a1 z1 r1 b1)
      | (refine at_new 41 54 arrL (by rfl) (by rfl) ?_;intro gr w2 a2 z2 r2 b2)
      | (go_at_call 110;refine(isKind_any _ _).mono ?_;rintro e w3 ⟨rfl,rfl⟩;rw [hk])
      | (refine at_bldL (by rfl) (by rfl) ?_)
      | (refine at_put 41 54 arrL (by rfl) _ _ (by rfl) gr (by rfl) Ld.zero.l (by rfl) Ld.zero.len _ r2 (by simp) ?_;intro w9 r9 s9))
    have S2:Stp (fun x=>w.heap.size≤x) w w2:=Stp.of_below (bnext b1 b2 (Nat.le_refl _)) _
    have hgr:w.heap.size≤gr:=by have:=b1.size;omega
    refine bodyPost_ret (retAtt arrL Tryz.results50 rfl rfl rfl r9 Ld.zero.len) rfl ⟨by obtain⟨q1,q2,q3⟩:=hE.out;rw [q1,q2,q3];rfl,(S2.next s9 (fun x hx=> .inl (by subst hx;exact hgr))).below (Nat.le_refl _) (fun _ h=>h)⟩
  · have tok:True:=trivial
    by_cases hx:(oKS b:Int)=k
    · have he:gES k b=0:=by unfold gES;rw [hk,if_pos rfl,if_pos hx]
      have hE:Hid (gP k b=oP b∧gT k b=oT b∧gES k b=0):=⟨by unfold gP;rw [he];rfl,by unfold gT;rw [he];rfl,he⟩
      clear he
      subst hx
      go_enter Tryz.func50,Tryz.ntmps50
      go_wp2_with (first
        | (refine at_box 64 64 arrB (by rfl) _ (by rfl) b.l (by rfl) hb ?_;intro gb w1 a1 z1 r1 b1)
        | (have _t:=tok;refine at_new 41 54 arrL (by rfl) (by rfl) ?_;intro gr w2 a2 z2 r2 b2;clear _t tok)
        | (go_at_call 110;refine(isKind_any _ _).mono ?_;rintro e w3 ⟨rfl,rfl⟩;rw [hk])
        | (refine at_get 64 64 arrB (by rfl) _ (by rfl) gb (by rfl) _ (r1.later b2) hb ?_)
        | (go_at_call 111;refine(open_any b _).mono ?_;rintro e w4 ⟨rfl,b4⟩)
        | (refine at_new 41 54 arrL (by rfl) (by rfl) ?_;intro gp w5 a5 z5 r5 b5)
        | (refine at_put 41 54 arrL (by rfl) _ _ (by rfl) gp (by rfl) (oP b).l (by rfl) hlp _ r5 (by simp) ?_;intro w6 r6 s6)
        | (refine at_get 41 54 arrL (by rfl) _ (by rfl) gp (by rfl) _ r6 hlp ?_)
        | (refine at_put 41 54 arrL (by rfl) _ _ (by rfl) gr (by rfl) (oP b).l (by rfl) hlp _ (((r2.later b4).later b5).step s6 (by have:=b4.size;omega)) (by simp) ?_;intro w9 r9 s9))
      have S5:Stp (fun x=>w.heap.size≤x) w w5:=Stp.of_below (bnext (bnext (bnext b1 b2 (Nat.le_refl _)) b4 (Nat.le_refl _)) b5 (Nat.le_refl _)) _
      have hgr:w.heap.size≤gr:=by have:=b1.size;omega
      have hgp:w.heap.size≤gp:=by have:=b1.size;have:=b2.size;have:=b4.size;omega
      have S6:=S5.next s6 (fun x hx=> .inl (by subst hx;exact hgp))
      refine bodyPost_ret (retAtt arrL Tryz.results50 rfl rfl rfl r9 hlp) rfl ⟨by obtain⟨q1,q2,q3⟩:=hE.out;rw [q1,q2,q3];rfl,(S6.next s9 (fun x hx=> .inl (by subst hx;exact hgr))).below (Nat.le_refl _) (fun _ h=>h)⟩
    · have he:gES k b=21:=by unfold gES;rw [hk,if_pos rfl,if_neg hx]
      have hE:Hid (gP k b=Ld.zero∧gT k b=0∧gES k b=21):=⟨by unfold gP;rw [he];rfl,by unfold gT;rw [he];rfl,he⟩
      clear he
      go_enter Tryz.func50,Tryz.ntmps50
      go_wp2_with (first
        | (refine at_box 64 64 arrB (by rfl) _ (by rfl) b.l (by rfl) hb ?_;intro gb w1 a1 z1 r1 b1)
        | (have _t:=tok;refine at_new 41 54 arrL (by rfl) (by rfl) ?_;intro gr w2 a2 z2 r2 b2;clear _t tok)
        | (go_at_call 110;refine(isKind_any _ _).mono ?_;rintro e w3 ⟨rfl,rfl⟩;rw [hk])
        | (refine at_get 64 64 arrB (by rfl) _ (by rfl) gb (by rfl) _ (r1.later b2) hb ?_)
        | (go_at_call 111;refine(open_any b _).mono ?_;rintro e w4 ⟨rfl,b4⟩)
        | (refine at_new 41 54 arrL (by rfl) (by rfl) ?_;intro gp w5 a5 z5 r5 b5)
        | (refine at_put 41 54 arrL (by rfl) _ _ (by rfl) gp (by rfl) (oP b).l (by rfl) hlp _ r5 (by simp) ?_;intro w6 r6 s6)
        | (refine at_bldL (by rfl) (by rfl) ?_)
        | (refine at_put 41 54 arrL (by rfl) _ _ (by rfl) gr (by rfl) Ld.zero.l (by rfl) Ld.zero.len _ (((r2.later b4).later b5).step s6 (by have:=b4.size;omega)) (by simp) ?_;intro w9 r9 s9))
      have S5:Stp (fun x=>w.heap.size≤x) w w5:=Stp.of_below (bnext (bnext (bnext b1 b2 (Nat.le_refl _)) b4 (Nat.le_refl _)) b5 (Nat.le_refl _)) _
      have hgr:w.heap.size≤gr:=by have:=b1.size;omega
      have hgp:w.heap.size≤gp:=by have:=b1.size;have:=b2.size;have:=b4.size;omega
      have S6:=S5.next s6 (fun x hx=> .inl (by subst hx;exact hgp))
      refine bodyPost_ret (retAtt arrL Tryz.results50 rfl rfl rfl r9 Ld.zero.len) rfl ⟨by obtain⟨q1,q2,q3⟩:=hE.out;rw [q1,q2,q3];rfl,(S6.next s9 (fun x hx=> .inl (by subst hx;exact hgr))).below (Nat.le_refl _) (fun _ h=>h)⟩
theorem nT_int (b:Blk):IntKind.u32.wrap ((oT b:Int)+1)=(nT b:Int):=by
  unfold nT;rw [IntKind.wrap_u32'];omega
set_option maxRecDepth 100000
theorem rget32_56 (g:Nat) (l:List UInt8) (w:World) (h:Row w g l) (hl:l.length=64):
    Calls Tryz.prog 116 #[.slice (some ⟨g,0,none⟩) 64 64, .int .i64 56] w fun e w'=>e= .returned (.tuple #[.int .u32 (get4 l 56:Nat), .int .i64 0])∧w=w':=by
  have hb:=h.bs0 64 64 (by omega) (Nat.le_refl _) (by decide)
  rw [List.take_of_length_le (by omega)]at hb
  rw [← le4_ints]
  exact rget32_ok _ 64 64 _ 56 w hb (by omega)
theorem rget32_60 (g:Nat) (l:List UInt8) (w:World) (h:Row w g l) (hl:l.length=64):
    Calls Tryz.prog 116 #[.slice (some ⟨g,0,none⟩) 64 64, .int .i64 60] w fun e w'=>e= .returned (.tuple #[.int .u32 (get4 l 60:Nat), .int .i64 0])∧w=w':=by
  have hb:=h.bs0 64 64 (by omega) (Nat.le_refl _) (by decide)
  rw [List.take_of_length_le (by omega)]at hb
  rw [← le4_ints]
  exact rget32_ok _ 64 64 _ 60 w hb (by omega)
def mix (l:List UInt8) (k:Nat):List UInt8:=l.take k++List.replicate (54 - k) 0
theorem mix_len {l:List UInt8} (h:l.length=64) {k:Nat} (hk:k≤54):(mix l k).length=54:=by unfold mix;simp [h];omega
theorem mix_set {l:List UInt8} (h:l.length=64) {k:Nat} (hk:k < 54):(mix l k).set k (l.getD k 0)=mix l (k+1):=by
  have e:l.take (k+1)=l.take k++ [l.getD k 0]:=by rw [List.take_add_one,List.getD_eq_getElem?_getD,List.getElem?_eq_getElem (by omega)];rfl
  unfold mix
  rw [List.set_append_right _ _ (by rw [List.length_take];omega),List.length_take,Nat.min_eq_left (by omega),Nat.sub_self,show 54 - k=(54 - (k+1))+1 by omega,List.replicate_succ,List.set_cons_zero,e,List.append_assoc];rfl
theorem mix_all (b:Blk):mix b.l 54=(ldOf b).l:=by unfold mix ldOf;simp
set_option maxRecDepth 100000 in
set_option maxHeartbeats 2000000 in
theorem rget_no (k:Int) (b:Blk) (w:World) (hk:isK k=false):
    Calls Tryz.prog 52 #[.int .i64 k, .agg b.cs.toArray] w fun e w'=>e= .returned (.tuple #[.agg (gP k b).cs.toArray, .int .u32 (gT k b:Nat), .int .i64 (gES k b)])∧Below w.heap.size w w':=by
  have hb:=b.len
  have he:gES k b=2:=by unfold gES;rw [hk];rfl
  have hE:Hid (gP k b=Ld.zero∧gT k b=0∧gES k b=2):=⟨by unfold gP;rw [he];rfl,by unfold gT;rw [he];rfl,he⟩
  clear he
  go_enter Tryz.func52,Tryz.ntmps52
  go_wp2_with (first
    | (refine at_box 64 64 arrB (by rfl) _ (by rfl) b.l (by rfl) hb ?_;intro gb w1 a1 z1 r1 b1)
    | (refine at_new 41 54 arrL (by rfl) (by rfl) ?_;intro gr w2 a2 z2 r2 b2)
    | (go_at_call 115;refine(may_any _ _).mono ?_;rintro e w3 ⟨rfl,rfl⟩;rw [hk])
    | (refine at_bldL (by rfl) (by rfl) ?_)
    | (refine at_put 41 54 arrL (by rfl) _ _ (by rfl) gr (by rfl) Ld.zero.l (by rfl) Ld.zero.len _ r2 (by simp) ?_;intro w9 r9 s9))
  have S2:Stp (fun x=>w.heap.size≤x) w w2:=Stp.of_below (bnext b1 b2 (Nat.le_refl _)) _
  have hgr:w.heap.size≤gr:=by have:=b1.size;omega
  refine bodyPost_ret (retAtt arrL Tryz.results52 rfl rfl rfl r9 Ld.zero.len) rfl ⟨by obtain⟨q1,q2,q3⟩:=hE.out;rw [q1,q2,q3];rfl,(S2.next s9 (fun x hx=> .inl (by subst hx;exact hgr))).below (Nat.le_refl _) (fun _ h=>h)⟩
set_option maxRecDepth 100000 in
set_option maxHeartbeats 2000000 in
theorem rget_right (n:Nat) (b:Blk) (w:World) (h1:1≤n) (h6:n≤6) (hx:oKS b=n):
    Calls Tryz.prog 52 #[.int .i64 (n:Int), .agg b.cs.toArray] w fun e w'=>e= .returned (.tuple #[.agg (gP n b).cs.toArray, .int .u32 (gT n b:Nat), .int .i64 (gES n b)])∧Below w.heap.size w w':=by
  have hb:=b.len
  have hk:=isK_of h1 h6
  have he:gES n b=0:=by unfold gES;rw [hk,if_pos rfl,if_pos (by omega)]
  have hr:rightB b=true:=by
    unfold oKS at hx
    split at hx
    · rename_i h;exact h
    · omega
  have hE:Hid (gP n b=ldOf b∧gT n b=trn b∧gES n b=0):=⟨by unfold gP oP;rw [he,hr];rfl,by unfold gT oT;rw [he,hr];rfl,he⟩
  have hyes:=(right_is b n h1 h6).2 hx
  clear he hr hx
  have e1:((byt b 54:Int) != (n:Int))=false:=by rw [bne_eq_false_iff_eq];omega
  have e2:((byt b 55:Int) != 255 - (n:Int))=false:=by rw [bne_eq_false_iff_eq];omega
  have e3:((get4 b.l 60:Int) != (sumOf (ints (b.l.take 60)):Int))=false:=by rw [bne_eq_false_iff_eq];omega
  have l54:=byt_lt b 54
  have l55:=byt_lt b 55
  have l60:=get4_lt b.l 60
  have lsm:=sum_lt (ints (b.l.take 60))
  have tok:True:=trivial
  have tok0:True:=trivial
  clear hyes
  go_enter Tryz.func52,Tryz.ntmps52
  go_wp2_with (first
    | (refine at_box 64 64 arrB (by rfl) _ (by rfl) b.l (by rfl) hb ?_;intro gb w1 a1 z1 r1 b1)
    | (have _t:=tok0;refine at_new 41 54 arrL (by rfl) (by rfl) ?_;intro gr w2 a2 z2 r2 b2;clear _t tok0
       have u2:Row w2 gb b.l:=r1.later b2
       have c54:w2.cell? ⟨gb,54,none⟩=some (.int .u8 (byt b 54:Nat)):=u2.cell 54 (by omega)
       have c55:w2.cell? ⟨gb,55,none⟩=some (.int .u8 (byt b 55:Nat)):=u2.cell 55 (by omega)
       have d60:=u2.bs0 60 64 (by omega) (by omega) (by decide))
    | (go_at_call 115;refine(may_any _ _).mono ?_;rintro e w3 ⟨rfl,rfl⟩;rw [hk])
    | (go_at_call 116;have _t:=tok;refine(rget32_56 gb b.l _ u2 hb).mono ?_;rintro e w3 ⟨rfl,rfl⟩;clear _t tok)
    | (go_at_call 116;refine(rget32_60 gb b.l _ u2 hb).mono ?_;rintro e w3 ⟨rfl,rfl⟩)
    | (go_at_call 117;refine(rof_anyK _ 60 64 _ w2 d60).mono ?_;rintro e w7 ⟨rfl,rfl⟩)
    | (refine at_bldL (by rfl) (by rfl) ?_)
    | (refine at_new 41 54 arrL (by rfl) (by rfl) ?_;intro gp w4 a4 z4 r4 b4)
    | (refine at_put 41 54 arrL (by rfl) _ _ (by rfl) gp (by rfl) Ld.zero.l (by rfl) Ld.zero.len _ r4 (by simp) ?_;intro w5 r5 s5))
  have u5:Row w5 gb b.l:=((u2.later b4).step s5 (by omega))
  have q5:Row w5 gr (List.replicate 54 0):=((r2.later b4).step s5 (by omega))
  have S5:Stp (fun x=>w.heap.size≤x) w w5:=(Stp.of_below (bnext (bnext b1 b2 (Nat.le_refl _)) b4 (Nat.le_refl _)) _).next s5 (fun x hx=> .inl (by subst hx;have:=b1.size;have:=b2.size;omega))
  have hgr:w.heap.size≤gr:=by have:=b1.size;omega
  have hgp:w.heap.size≤gp:=by have:=b1.size;have:=b2.size;omega
  have n1:gb≠gp:=by omega
  have n2:gr≠gp:=by omega
  have m0:Row w5 gp (mix b.l 0):=r5
  clear r1 b1 a1 z1 r2 b2 a2 z2 u2 c54 c55 d60 a4 z4 r4 b4 r5 s5 e1 e2 e3
  go_loopw [12] (fun i wr=>∃ k:Nat,k≤54∧i= .int .i64 k∧Row wr gp (mix b.l k)∧Stp (fun x=>x=gp) w5 wr) (fun i _=>54 - (intOf i).toNat)
  case atStart=>exact⟨0,Nat.zero_le _,rfl,m0,Stp.refl _ _⟩
  case round=>
    obtain⟨k,hk4,rfl,mk,sk⟩:=hrel
    by_cases hlt:k < 54
    · have c1:_=some (Value.int .u8 _):=(u5.step sk n1).cell k (by omega)
      have c2:=mk.cell k (by rw [mix_len hb hk4];exact hlt)
      have f2:=mk.frozen k
      have mk':=mk.set k (b.l.getD k 0)
      rw [mix_set hb hlt]at mk'
      generalize hv:(((b.l.getD k 0).toNat:Nat):Int)=v at *
      clear hv
      go_wp2_with fail
      go_roundw
      case rel=>exact⟨k+1,by omega,by go_num,mk',sk.setCell (.inl rfl) _⟩
      case measure=>simp [intOf];omega
    · obtain rfl:k=54:=by omega
      rw [mix_all]at mk
      have qk:=q5.step sk n2
      have hlp:=(ldOf b).len
      have Sk:=S5.next sk (fun x hx=> .inl (by subst hx;exact hgp))
      go_wp2_with (first
        | (refine at_get 41 54 arrL (by rfl) _ (by rfl) gp (by rfl) _ mk hlp ?_)
        | (refine at_put 41 54 arrL (by rfl) _ _ (by rfl) gr (by rfl) (ldOf b).l (by rfl) hlp _ qk (by simp) ?_;intro w9 r9 s9))
      refine bodyPost_ret (retAtt arrL Tryz.results52 rfl rfl rfl r9 hlp) rfl ⟨by obtain⟨q1,q2,q3⟩:=hE.out;rw [q1,q2,q3];rfl,(Sk.next s9 (fun x hx=> .inl (by subst hx;exact hgr))).below (Nat.le_refl _) (fun _ h=>h)⟩
set_option maxRecDepth 100000
set_option maxRecDepth 100000 in
set_option maxHeartbeats 1000000 in
theorem rget_e3 (n:Nat) (b:Blk) (w:World) (h1:1≤n) (h6:n≤6) (hE:Hid (gP n b=Ld.zero∧gT n b=0∧gES n b=21)) (e1:((byt b 54:Int) != (n:Int))=false) (e2:((byt b 55:Int) != 255 - (n:Int))=false) (e3:((get4 b.l 60:Int) != (sumOf (ints (b.l.take 60)):Int))=true):
    Calls Tryz.prog 52 #[.int .i64 (n:Int), .agg b.cs.toArray] w fun e w'=>e= .returned (.tuple #[.agg (gP n b).cs.toArray, .int .u32 (gT n b:Nat), .int .i64 (gES n b)])∧Below w.heap.size w w':=by
  have hb:=b.len
  have hk:=isK_of h1 h6
  have l54:=byt_lt b 54
  have l55:=byt_lt b 55
  have l60:=get4_lt b.l 60
  have lsm:=sum_lt (ints (b.l.take 60))
  have tok:True:=trivial
  go_enter Tryz.func52,Tryz.ntmps52
  go_wp2_with (first
    | (refine at_box 64 64 arrB (by rfl) _ (by rfl) b.l (by rfl) hb ?_;intro gb w1 a1 z1 r1 b1)
    | (refine at_new 41 54 arrL (by rfl) (by rfl) ?_;intro gr w2 a2 z2 r2 b2
       have u2:Row w2 gb b.l:=r1.later b2
       have c54:w2.cell? ⟨gb,54,none⟩=some (.int .u8 (byt b 54:Nat)):=u2.cell 54 (by omega)
       have c55:w2.cell? ⟨gb,55,none⟩=some (.int .u8 (byt b 55:Nat)):=u2.cell 55 (by omega)
       have d60:=u2.bs0 60 64 (by omega) (by omega) (by decide))
    | (go_at_call 115;refine(may_any _ _).mono ?_;rintro e w3 ⟨rfl,rfl⟩;rw [hk])
    | (go_at_call 116;have _t:=tok;refine(rget32_56 gb b.l _ u2 hb).mono ?_;rintro e w3 ⟨rfl,rfl⟩;clear _t tok)
    | (go_at_call 116;refine(rget32_60 gb b.l _ u2 hb).mono ?_;rintro e w3 ⟨rfl,rfl⟩)
    | (go_at_call 117;refine(rof_anyK _ 60 64 _ w2 d60).mono ?_;rintro e w7 ⟨rfl,rfl⟩)
    | (refine at_bldL (by rfl) (by rfl) ?_)
    | (refine at_put 41 54 arrL (by rfl) _ _ (by rfl) gr (by rfl) Ld.zero.l (by rfl) Ld.zero.len _ r2 (by simp) ?_;intro w9 r9 s9))
  have S2:Stp (fun x=>w.heap.size≤x) w w2:=Stp.of_below (bnext b1 b2 (Nat.le_refl _)) _
  have hgr:w.heap.size≤gr:=by have:=b1.size;omega
  refine bodyPost_ret (retAtt arrL Tryz.results52 rfl rfl rfl r9 Ld.zero.len) rfl ⟨by obtain⟨q1,q2,q3⟩:=hE.out;rw [q1,q2,q3];rfl,(S2.next s9 (fun x hx=> .inl (by subst hx;exact hgr))).below (Nat.le_refl _) (fun _ h=>h)⟩
set_option maxRecDepth 100000 in
set_option maxHeartbeats 1000000 in
theorem rget_e2 (n:Nat) (b:Blk) (w:World) (h1:1≤n) (h6:n≤6) (hE:Hid (gP n b=Ld.zero∧gT n b=0∧gES n b=21)) (e1:((byt b 54:Int) != (n:Int))=false) (e2:((byt b 55:Int) != 255 - (n:Int))=true):
    Calls Tryz.prog 52 #[.int .i64 (n:Int), .agg b.cs.toArray] w fun e w'=>e= .returned (.tuple #[.agg (gP n b).cs.toArray, .int .u32 (gT n b:Nat), .int .i64 (gES n b)])∧Below w.heap.size w w':=by
  have hb:=b.len
  have hk:=isK_of h1 h6
  have l54:=byt_lt b 54
  have l55:=byt_lt b 55
  have l60:=get4_lt b.l 60
  have lsm:=sum_lt (ints (b.l.take 60))
  have tok:True:=trivial
  go_enter Tryz.func52,Tryz.ntmps52
  go_wp2_with (first
    | (refine at_box 64 64 arrB (by rfl) _ (by rfl) b.l (by rfl) hb ?_;intro gb w1 a1 z1 r1 b1)
    | (refine at_new 41 54 arrL (by rfl) (by rfl) ?_;intro gr w2 a2 z2 r2 b2
       have u2:Row w2 gb b.l:=r1.later b2
       have c54:w2.cell? ⟨gb,54,none⟩=some (.int .u8 (byt b 54:Nat)):=u2.cell 54 (by omega)
       have c55:w2.cell? ⟨gb,55,none⟩=some (.int .u8 (byt b 55:Nat)):=u2.cell 55 (by omega)
       have d60:=u2.bs0 60 64 (by omega) (by omega) (by decide))
    | (go_at_call 115;refine(may_any _ _).mono ?_;rintro e w3 ⟨rfl,rfl⟩;rw [hk])
    | (go_at_call 116;have _t:=tok;refine(rget32_56 gb b.l _ u2 hb).mono ?_;rintro e w3 ⟨rfl,rfl⟩;clear _t tok)
    | (go_at_call 116;refine(rget32_60 gb b.l _ u2 hb).mono ?_;rintro e w3 ⟨rfl,rfl⟩)
    | (go_at_call 117;refine(rof_anyK _ 60 64 _ w2 d60).mono ?_;rintro e w7 ⟨rfl,rfl⟩)
    | (refine at_bldL (by rfl) (by rfl) ?_)
    | (refine at_put 41 54 arrL (by rfl) _ _ (by rfl) gr (by rfl) Ld.zero.l (by rfl) Ld.zero.len _ r2 (by simp) ?_;intro w9 r9 s9))
  have S2:Stp (fun x=>w.heap.size≤x) w w2:=Stp.of_below (bnext b1 b2 (Nat.le_refl _)) _
  have hgr:w.heap.size≤gr:=by have:=b1.size;omega
  refine bodyPost_ret (retAtt arrL Tryz.results52 rfl rfl rfl r9 Ld.zero.len) rfl ⟨by obtain⟨q1,q2,q3⟩:=hE.out;rw [q1,q2,q3];rfl,(S2.next s9 (fun x hx=> .inl (by subst hx;exact hgr))).below (Nat.le_refl _) (fun _ h=>h)⟩
set_option maxRecDepth 100000 in
set_option maxHeartbeats 1000000 in
theorem rget_e1 (n:Nat) (b:Blk) (w:World) (h1:1≤n) (h6:n≤6) (hE:Hid (gP n b=Ld.zero∧gT n b=0∧gES n b=21)) (e1:((byt b 54:Int) != (n:Int))=true):
    Calls Tryz.prog 52 #[.int .i64 (n:Int), .agg b.cs.toArray] w fun e w'=>e= .returned (.tuple #[.agg (gP n b).cs.toArray, .int .u32 (gT n b:Nat), .int .i64 (gES n b)])∧Below w.heap.size w w':=by
  have hb:=b.len
  have hk:=isK_of h1 h6
  have l54:=byt_lt b 54
  have l55:=byt_lt b 55
  have l60:=get4_lt b.l 60
  have lsm:=sum_lt (ints (b.l.take 60))
  have tok:True:=trivial
  go_enter Tryz.func52,Tryz.ntmps52
  go_wp2_with (first
    | (refine at_box 64 64 arrB (by rfl) _ (by rfl) b.l (by rfl) hb ?_;intro gb w1 a1 z1 r1 b1)
    | (refine at_new 41 54 arrL (by rfl) (by rfl) ?_;intro gr w2 a2 z2 r2 b2
       have u2:Row w2 gb b.l:=r1.later b2
       have c54:w2.cell? ⟨gb,54,none⟩=some (.int .u8 (byt b 54:Nat)):=u2.cell 54 (by omega)
       have c55:w2.cell? ⟨gb,55,none⟩=some (.int .u8 (byt b 55:Nat)):=u2.cell 55 (by omega)
       have d60:=u2.bs0 60 64 (by omega) (by omega) (by decide))
    | (go_at_call 115;refine(may_any _ _).mono ?_;rintro e w3 ⟨rfl,rfl⟩;rw [hk])
    | (go_at_call 116;have _t:=tok;refine(rget32_56 gb b.l _ u2 hb).mono ?_;rintro e w3 ⟨rfl,rfl⟩;clear _t tok)
    | (go_at_call 116;refine(rget32_60 gb b.l _ u2 hb).mono ?_;rintro e w3 ⟨rfl,rfl⟩)
    | (go_at_call 117;refine(rof_anyK _ 60 64 _ w2 d60).mono ?_;rintro e w7 ⟨rfl,rfl⟩)
    | (refine at_bldL (by rfl) (by rfl) ?_)
    | (refine at_put 41 54 arrL (by rfl) _ _ (by rfl) gr (by rfl) Ld.zero.l (by rfl) Ld.zero.len _ r2 (by simp) ?_;intro w9 r9 s9))
  have S2:Stp (fun x=>w.heap.size≤x) w w2:=Stp.of_below (bnext b1 b2 (Nat.le_refl _)) _
  have hgr:w.heap.size≤gr:=by have:=b1.size;omega
  refine bodyPost_ret (retAtt arrL Tryz.results52 rfl rfl rfl r9 Ld.zero.len) rfl ⟨by obtain⟨q1,q2,q3⟩:=hE.out;rw [q1,q2,q3];rfl,(S2.next s9 (fun x hx=> .inl (by subst hx;exact hgr))).below (Nat.le_refl _) (fun _ h=>h)⟩
theorem rget_else (n:Nat) (b:Blk) (w:World) (h1:1≤n) (h6:n≤6) (hx:oKS b≠n):
    Calls Tryz.prog 52 #[.int .i64 (n:Int), .agg b.cs.toArray] w fun e w'=>e= .returned (.tuple #[.agg (gP n b).cs.toArray, .int .u32 (gT n b:Nat), .int .i64 (gES n b)])∧Below w.heap.size w w':=by
  have hk:=isK_of h1 h6
  have he:gES n b=21:=by unfold gES;rw [hk,if_pos rfl,if_neg (by omega)]
  have hE:Hid (gP n b=Ld.zero∧gT n b=0∧gES n b=21):=⟨by unfold gP;rw [he];rfl,by unfold gT;rw [he];rfl,he⟩
  have hno:¬(byt b 54=n∧byt b 55=255 - n∧get4 b.l 60=sumOf (ints (b.l.take 60))):=fun h=>hx ((right_is b n h1 h6).1 h)
  have l54:=byt_lt b 54
  cases e1:((byt b 54:Int) != (n:Int))
  · cases e2:((byt b 55:Int) != 255 - (n:Int))
    · cases e3:((get4 b.l 60:Int) != (sumOf (ints (b.l.take 60)):Int))
      · exfalso
        rw [bne_eq_false_iff_eq]at e1 e2 e3
        omega
      · exact rget_e3 n b w h1 h6 hE e1 e2 e3
    · exact rget_e2 n b w h1 h6 hE e1 e2
  · exact rget_e1 n b w h1 h6 hE e1
theorem rget_anyS (k:Int) (b:Blk) (w:World):
    Calls Tryz.prog 52 #[.int .i64 k, .agg b.cs.toArray] w fun e w'=>e= .returned (.tuple #[.agg (gP k b).cs.toArray, .int .u32 (gT k b:Nat), .int .i64 (gES k b)])∧Below w.heap.size w w':=by
  cases hk:isK k
  · exact rget_no k b w hk
  · obtain⟨n,rfl,h1,h6⟩:=isK_nat hk
    by_cases hx:oKS b=n
    · exact rget_right n b w h1 h6 hx
    · exact rget_else n b w h1 h6 hx
set_option maxRecDepth 100000
theorem gE_yes {b:Blk} {k:Nat} (h1:1≤k) (h6:k≤6) (h:oKS b=k):gES (k:Int) b=0:=by unfold gES;rw [isK_of h1 h6,if_pos rfl,if_pos (by omega)]
theorem oT_none {b:Blk} (h:oKS b=0):oT b=0:=by
  unfold oT
  split
  · rename_i hr
    have:oKS b=byt b 54:=by unfold oKS;rw [hr];rfl
    unfold rightB isK at hr
    simp at hr;omega
  · rfl
theorem gT_own {b:Blk} (h:oKS b≠0):gT (oKS b:Nat) b=oT b:=by
  have:=oK_lt b
  unfold gT;rw [gE_yes (by omega) (by omega) rfl];rfl
end Go.Proofs.YtogdffonjhghcaaGreatDoor
