/-
  Texts of my own, joined: no statement is proved here.
-/
import Derived.Test.YtogdffonjhghcaaGreatDoorRows
import Derived.OpenShut
import Derived.Test.YtogdffonjhghcaaGreatDoorJap
set_option linter.unusedSimpArgs false
set_option linter.unusedVariables false
namespace Go.Proofs.YtogdffonjhghcaaGreatDoor
open Go.ChangeShapes Go.WideShapes Go.ChangeAt Go.RowKit
def Ca (u:World) (gc g:Nat) (sp:Value) (Z:CZ) (U:Nat→Prop):Prop:=∃ mp ov f E F G,Cx u gc g sp Z mp ov f E F G∧∀ x,U x↔Al E F G x
def Goes (gc g:Nat) (sp:Value) (Z':CZ) (U:Nat→Prop) (w w':World):Prop:=∃ U',Ca w' gc g sp Z' U'∧Stp U w w'∧Grew U U' w w'
section
variable {u u' : World} {gc g : Nat} {sp : Value} {Z Z' : CZ} {U B : Nat → Prop} {t : Nat}
theorem Ca.lt (h:Ca u gc g sp Z U):∀ x,U x→x < u.heap.size:=by
 obtain⟨mp,ov,f,E,F,G,H,hU⟩:=h
 intro x hx
 exact Nat.lt_of_not_le (fun hl=>H.far x hl ((hU x).1 hx))
theorem Ca.step (h:Ca u gc g sp Z U) (k:Stp B u u') (hB:∀ x,U x→¬B x):Ca u' gc g sp Z U:=by
 obtain⟨mp,ov,f,E,F,G,H,hU⟩:=h
 exact⟨mp,ov,f,E,F,G,H.step k (fun x hx=>hB x ((hU x).2 (.inl hx))) (fun x hx=>hB x ((hU x).2 (.inr (.inl hx)))) (fun x hx=>hB x ((hU x).2 (.inr (.inr hx)))),hU⟩
theorem Ca.later (h:Ca u gc g sp Z U) (k:Below u.heap.size u u'):Ca u' gc g sp Z U:=h.step (Stp.of_below k (fun _=>False)) (fun _ _=>id)
theorem Z4k {mp:Nat} {E F G:Nat→Prop} (h:To gc g mp sp E F G Z' u u') (hU:∀ x,U x↔Al E F G x):Goes gc g sp Z' U u u':=by
 obtain⟨ov',f',E',F',h1,h2,h3,h4⟩:=h
 refine⟨Al E' F' G,⟨mp,ov',f',E',F',G,h1,fun _=>Iff.rfl⟩,h2.mono (fun x hx=> .inl ((hU x).2 hx)),fun x hx=>?_⟩
 rcases Al.grew h3 h4 x hx with e | e
 · exact .inl ((hU x).2 e)
 · exact .inr e
theorem Zis (h:Ca u gc g sp Z U) (ok:Z.ok t) (ht:t≤9000) (i:Int) (hi:(Lit.int .i64 i).wf=true):
 Calls Tryz.prog 76 #[.pointer (some ⟨gc,0,none⟩), .int .i64 i] u fun e u'=>e= .returned (.tuple #[.agg (Z.got i).cs.toArray, .int .i64 (Z.holdE i)])∧Goes gc g sp (Z.hold i) U u u':=by
 obtain⟨mp,ov,f,E,F,G,H,hU⟩:=h
 exact(Z8i H ok (by omega) i hi).mono (fun e u' ⟨h1,h2⟩=>⟨h1,Z4k h2 hU⟩)
theorem Zr6 (h:Ca u gc g sp Z U) (ok:Z.ok t) (ht:t≤9000) (i:Int) (hi:(Lit.int .i64 i).wf=true) (b:Blk):
 Calls Tryz.prog 277 #[.pointer (some ⟨gc,0,none⟩), .int .i64 i, .agg b.cs.toArray] u fun e u'=>e= .returned (.int .i64 (Z.holdE i))∧Goes gc g sp (Z.put i b) U u u':=by
 obtain⟨mp,ov,f,E,F,G,H,hU⟩:=h
 exact(Z1e H ok (by omega) i hi b).mono (fun e u' ⟨h1,h2⟩=>⟨h1,Z4k h2 hU⟩)
theorem Zls (h:Ca u gc g sp Z U) (ok:Z.ok t) (ht:t≤9000) (i:Int) (hi:(Lit.int .i64 i).wf=true) (b:Blk):
 Calls Tryz.prog 276 #[.pointer (some ⟨gc,0,none⟩), .int .i64 i, .agg b.cs.toArray] u fun e u'=>e= .returned (.int .i64 (Z.forceE i))∧Goes gc g sp (Z.force i b) U u u':=by
 obtain⟨mp,ov,f,E,F,G,H,hU⟩:=h
 exact(Zge H ok (by omega) i hi b).mono (fun e u' ⟨h1,h2⟩=>⟨h1,Z4k h2 hU⟩)
theorem Znx (h:Ca u gc g sp Z U) (ok:Z.ok t) (ht:t≤9000) (i:Int) (hi:(Lit.int .i64 i).wf=true):
 Calls Tryz.prog 278 #[.pointer (some ⟨gc,0,none⟩), .int .i64 i] u fun e u'=>e= .returned (.int .i64 (Z.backE i))∧Goes gc g sp (Z.back i) U u u':=by
 obtain⟨mp,ov,f,E,F,G,H,hU⟩:=h
 exact(Z6u H ok (by omega) i hi).mono (fun e u' ⟨h1,F',h2,h3,h4⟩=>⟨h1,Z4k ⟨ov,f,E,F',h2,h3,Grew.refl _ _ _,h4⟩ hU⟩)
theorem Zfl (h:Ca u gc g sp Z U) (i:Int) (hi:(Lit.int .i64 i).wf=true):
 Calls Tryz.prog 27 #[.pointer (some ⟨g,0,none⟩), .int .i64 i] u fun e u'=>e= .returned (.tuple #[.agg (Z.d.shown i).cs.toArray, .int .i64 (Z0l Z.d i)])∧Below u.heap.size u u':=by
 obtain⟨mp,ov,f,E,F,G,H,hU⟩:=h
 exact Z79 H.dd.d i hi
theorem Zah {d:DS} {p:Option PS} {F G:Nat→Prop} (hd:DD u g sp d p F G) (n:Nat) (h1:1≤n) (h2:n≤64):
 Calls Tryz.prog 46 #[.pointer (some ⟨g,0,none⟩), .int .i64 (n:Int)] u fun e u'=>∃ gc U,e= .returned (.tuple #[.pointer (some ⟨gc,0,none⟩), .int .i64 0])∧Ca u' gc g sp (CZ.new d p n) U∧Below u.heap.size u u'∧(∀ x,U x→F x∨G x∨u.heap.size≤x):=
 (Z70 hd n h1 h2).mono (fun e u' ⟨gc,mp,E,h1,h2,h3,h4⟩=>⟨gc,Al E F G,h1,⟨mp,_,_,E,F,G,h2,fun _=>Iff.rfl⟩,h3,fun x hx=>by
   rcases hx with e | e | e
   · exact .inr (.inr (h4 x e))
   · exact .inl e
   · exact .inr (.inl e)⟩)
end
theorem Zby (l:List Blk) (b x:Blk):(l++ [b]).getLastD x=b:=by simp
theorem Z5i {d:DS} {p:Option PS} {i:Int} (b:Blk) (h:Z0b d p i=0) (j:Int):(d.write p i b).shown j=if j=i then b else d.shown j:=by
 unfold DS.write
 rw [if_pos h]
 unfold DS.shown Z1w
 simp only [DS.count,DS.wrote]
 by_cases e:j=i
 · rw [if_pos e,if_pos e,Zby]
 · rw [if_neg e,if_neg e]
theorem Zatq {d:DS} {p:Option PS} {i:Int} (b:Blk) (j:Int) (hj:j≠i):(d.write p i b).shown j=d.shown j:=by
 by_cases h:Z0b d p i=0
 · rw [Z5i b h,if_neg hj]
 · unfold DS.write;rw [if_neg h]
def b7:Blk:=⟨7::List.replicate 63 0,by simp⟩
def z0:CZ:=CZ.new (DS.new 3) none 1
structure A3 where
 d:Int
 t:Int
 b:Blk
end Go.Proofs.YtogdffonjhghcaaGreatDoor
