/-
  Texts of my own, joined: no statement is proved here.
-/
import Derived.Test.YtdnjddpfcgginaaGreatKak
set_option linter.unusedSimpArgs false
set_option linter.unusedVariables false
namespace Go.Proofs.YtdnjddpfcgginaaGreat
open Go.ChangeShapes Go.WideShapes Go.ChangeAt Go.RowKit
theorem Zeg {l:List UInt8} (h:l≠ [47]) {x:List UInt8} {L:List (List UInt8)} (hp:prt l=x::L):spE l=if x= []∧L≠ []then jE L else 45:=by
 unfold spE
 rw [if_neg h,hp]
 cases x with
 | nil=>
   cases L with
   | nil=>simp
   | cons y ys=>simp
 | cons b r=>simp
theorem Z9g:∀ l:List UInt8,(prt l).length≤l.length+1
 | []=>by simp [prt]
 | b::r=>by
   have:=Z9g r
   by_cases hb:b=47
   · subst hb;rw [Z4h];simp;omega
   · obtain⟨x,xs,e1,e2⟩:=Z4g hb r
     rw [e2];rw [e1]at this;simp at this ⊢;omega
theorem Zeh {l:List UInt8} (h:l≠ [47]) {x:List UInt8} {L:List (List UInt8)} (hp:prt l=x::L) (he:spE l=0):spN l=L:=by
 unfold spN
 rw [if_pos ⟨he,h⟩,hp];rfl
set_option maxRecDepth 100000 in
set_option maxHeartbeats 4000000 in
theorem Z51 (l:List UInt8) (w:World) (hl:l.length≤5000):
 Calls Tryz.prog 49 #[.string (str l)] w fun e w'=>SpR w' l e∧Below w.heap.size w w':=by
 have ht:=Z17 l
 by_cases h1:l= [47]
 · subst h1
   have fin:∀ w',SpR w' [47] (.returned (.tuple #[.slice none 0 0, .int .i64 0])):=fun w'=>⟨none,0,0,by simp [spE],by rw [show spN [47]= [] by simp [spN]];exact Sts.nilSlice _⟩
   go_enter Tryz.func49,Tryz.ntmps49
   go_wp2
   go_returns
   exact⟨fin _,Below.refl _ _⟩
 · have e3:(l== [47])=false:=by simpa using h1
   have HB:=Z9r l w hl
   obtain ⟨x,L,hp⟩:∃ x L,prt l=x::L:=by
    cases e:prt l with
    | nil=>exact absurd e (Z6a l)
    | cons x L=>exact⟨x,L,rfl⟩
   have hpl:=Z9g l
   rw [hp]at hpl
   replace hpl:(x::L).length≤5001:=by omega
   have hE:=Zeg h1 hp
   have hN:=Zeh h1 hp
   rw [hp]at HB
   have hE':Hid (spE l=if x= []∧L≠ []then jE L else 45):=hE
   have hN':Hid (spE l=0→spN l=L):=hN
   clear hE hN h1 hp
   cases L with
   | nil=>
     have h45:Hid (spE l=45):=by show _=_;rw [hE'.out];simp
     clear hE' hN'
     go_enter Tryz.func49,Tryz.ntmps49
     go_wp2_with (first
      | (go_at_call 88;refine HB.mono ?_;rintro e w1 ⟨v,rfl,o1,b1⟩;obtain⟨av,cv,rfl,hS,_⟩:=o1.shape))
     go_returns
     exact⟨Z3h _ _ 45 h45.out (by decide),b1⟩
   | cons y ys=>
     by_cases hx:x= []
     · subst hx
       have hE2:Hid (spE l=jE (y::ys)):=by show _=_;rw [hE'.out];simp
       clear hE'
       obtain⟨L,hL⟩:∃ L,Hid (y::ys=L):=⟨_,rfl⟩
       have hn:Hid (1≤L.length):=by show 1≤L.length;rw [← hL.out];simp
       rw [hL.out]at HB hE2 hN' hpl
       clear hL
       have hlen:([]::L:List (List UInt8)).length=L.length+1:=rfl
       have hlen2:=hpl
       rw [hlen]at hlen2
       replace hlen2:L.length≤5001:=by omega
       obtain⟨N,hNN⟩:∃ N,Hid (N=L.length+1):=⟨_,rfl⟩
       have HB2:Calls Tryz.prog 88 #[.string (str l), .int .u8 47] w fun e w'=>∃ bb oo cv,e= .returned (.slice (some ⟨bb,oo,none⟩) (N) cv)∧Sts w' (some ⟨bb,oo,none⟩) (N) cv ([]::L)∧(∀ i,i < N→w'.cell? ⟨bb,oo+i,none⟩=some (.string (str (([]::L).getD i []))))∧Below w.heap.size w w':=by
        refine HB.mono ?_
        rintro e w1 ⟨v,rfl,o1,b1⟩
        obtain⟨av,cv,rfl,hS,_⟩:=o1.shape
        rw [hlen]at hS
        rw [← hNN.out]at hS
        obtain⟨bb,oo,rfl,hc⟩:=hS.cell (by have:=hNN.out;omega)
        exact⟨bb,oo,cv,by rw [hlen,← hNN.out],hS,hc,b1⟩
       have hxe:(str ([]:List UInt8)).toList= []:=Z17 []
       have a1:¬(N:Int) < 2:=by have:=hn.out;have:=hNN.out;omega
       have a2:(0:Int) < (N:Int):=by have:=hNN.out;omega
       have hlL:Hid (L.length≤5001):=hlen2
       clear HB hlen hlen2
       go_enter Tryz.func49,Tryz.ntmps49
       go_wp2_with (first
        | (go_at_call 88;refine HB2.mono ?_;rintro e w1 ⟨bb,oo,cv,rfl,hS,hc,b1⟩;have c0:w1.cell? ⟨bb,oo,none⟩=some (.string (str [])):=hc 0 (by have:=hNN.out;omega);have hC:Hid (∀ i,i < N→w1.cell? ⟨bb,oo+i,none⟩=some (.string (str (([]::L).getD i [])))):=hc;clear hc))
       go_loopw [5] (fun iv wr=>∃ k:Nat,iv= .int .i64 ((k+1:Nat):Int)∧k≤L.length∧wr=w1∧∀ j,j < k→nm (L.getD j [])=true) (fun iv _=>N - (intOf iv).toNat)
       case atStart=>exact⟨0,rfl,Nat.zero_le _,rfl,fun j hj=>absurd hj (by omega)⟩
       case round=>
        obtain⟨k,rfl,hk,rfl,hall⟩:=hrel
        have hA:Hid (∀ j,j < k→nm (L.getD j [])=true):=hall
        clear hall
        by_cases hlt:k < L.length
        · have ck:=hC.out (k+1) (by have:=hNN.out;omega)
          rw [show([]::L).getD (k+1) []=L.getD k []from rfl]at ck
          have H1:=Za1 (L.getD k [])
          have hb0:Hid (nm (L.getD k [])=false→spE l=45):=fun h=>by
           rw [hE2.out]
           refine Zap (L.getD k []) ?_ h
           rw [List.getD_eq_getElem?_getD,List.getElem?_eq_getElem hlt];exact List.getElem_mem hlt
          have hb1:Hid (nm (L.getD k [])=true→∀ j,j < k+1→nm (L.getD j [])=true):=fun h j hj=>by
           by_cases e:j < k
           · exact hA.out j e
           · obtain rfl:j=k:=by omega
             exact h
          generalize L.getD k []=X at *
          have hk9:k≤5001:=by have:=hlL.out;omega
          have a3:(k:Int)+1 < (N:Int):=by have:=hNN.out;omega
          have a4:(0:Int)≤(k:Int)+1:=by omega
          have a5:((k:Int)+1).toNat=k+1:=by omega
          by_cases hx:nm X=true
          · have hnx:nE X=0:=by unfold nE;rw [if_pos hx]
            rw [hnx]at H1
            have hA2:Hid (∀ j,j < k+1→nm (L.getD j [])=true):=hb1.out hx
            clear hx hnx hb0 hb1
            go_wp2_with (first
             | (go_at_call 89;refine(H1 _).mono ?_;rintro e u ⟨rfl,rfl⟩))
            go_roundw
            case rel=>exact⟨k+1,by go_num,by omega,trivial,hA2.out⟩
            case measure=>have:=hNN.out;simp [intOf];omega
          · have hnx:nE X=45:=by unfold nE;rw [if_neg hx]
            rw [hnx]at H1
            have h45:Hid (spE l=45):=hb0.out (by simpa using hx)
            clear hx hnx hb0 hb1
            go_wp2_with (first
             | (go_at_call 89;refine(H1 _).mono ?_;rintro e u ⟨rfl,rfl⟩))
            go_returns
            exact⟨Z3h _ _ 45 h45.out (by decide),b1⟩
        · obtain rfl:k=L.length:=by omega
          have hj:jE L=if 16 < L.length then 3 else 0:=Z7x (fun x hx=>by
           obtain⟨j,hj,rfl⟩:=List.getElem_of_mem hx
           have:=hA.out j hj
           rwa [List.getD_eq_getElem?_getD,List.getElem?_eq_getElem hj]at this)
          by_cases g:16 < L.length
          · have h3:Hid (spE l=3):=by show _=_;rw [hE2.out,hj,if_pos g]
            have a3:(17:Int) < (N:Int):=by have:=hNN.out;omega
            have a4:¬(L.length:Int)+1 < (N:Int):=by have:=hNN.out;omega
            clear hj
            go_wp2
            go_returns
            exact⟨Z3h _ _ 3 h3.out (by decide),b1⟩
          · have h0:Hid (spE l=0):=by show _=_;rw [hE2.out,hj,if_neg g]
            have hL:Hid (spN l=L):=hN'.out h0.out
            have a3:¬(17:Int) < (N:Int):=by have:=hNN.out;omega
            have a9:¬(L.length:Int)+1 < (N:Int):=by have:=hNN.out;omega
            have a4:(1:Int)≤(N:Int):=by have:=hNN.out;omega
            have hcv:=hS.le
            have hcm:=hS.cap
            have a5:(1:Int)≤(cv:Int):=by have:=hNN.out;omega
            have a6:¬cv=1:=by have:=hn.out;have:=hNN.out;omega
            clear hj
            go_wp2
            go_returns
            refine⟨⟨some ⟨bb,oo+1,none⟩,N - 1,cv - 1,by rw [h0.out];rfl,?_⟩,b1⟩
            rw [hL.out]
            have hNo:=hNN.out
            refine⟨by omega,by omega,by omega,(fun e=>by cases e),fun _=>⟨bb,oo+1,rfl,fun i hi=>?_⟩⟩
            have:=hC.out (i+1) (by omega)
            rw [show([]::L).getD (i+1) []=L.getD i []from rfl]at this
            rw [Nat.add_assoc,Nat.add_comm 1 i];exact this
     · have h45:Hid (spE l=45):=by show _=_;rw [hE'.out];simp [hx]
       clear hE' hN'
       have hx2:(x== [])=false:=by simpa using hx
       have hx1:(str x).toList=x:=Z17 x
       have hx3:x.isEmpty=false:=by simpa using hx
       go_enter Tryz.func49,Tryz.ntmps49
       go_wp2_with (first
        | (go_at_call 88;refine HB.mono ?_;rintro e w1 ⟨v,rfl,o1,b1⟩;obtain⟨av,cv,rfl,hS,_⟩:=o1.shape
           obtain⟨bb,oo,rfl,hc⟩:=hS.cell (by simp)
           have c0:w1.cell? ⟨bb,oo,none⟩=some (.string (str x)):=hc 0 (by simp)))
       go_returns
       exact⟨Z3h _ _ 45 h45.out (by decide),b1⟩
def LaR (w':World) (l:List UInt8) (e:Ending):Prop:=∃ a n c,e= .returned (.tuple #[.slice a n c, .string (str (lsS l)), .int .i64 (lsE l)])∧Sts w' a n c (lsN l)
theorem Z5l (w':World) (l:List UInt8) (k:Int) (hk:lsE l=k) (h:spN l= []):LaR w' l (.returned (.tuple #[.slice none 0 0, .string ⟨#[]⟩, .int .i64 k])):=by
 have e1:lsN l= []:=by unfold lsN;rw [h];rfl
 have e2:lsS l= []:=by unfold lsS;rw [h];rfl
 exact⟨none,0,0,by rw [hk,e2];rfl,by rw [e1];exact Sts.nilSlice _⟩
theorem Zar {w':World} {l:List UInt8} {a:Option Addr} {n c:Nat} (hS:Sts w' a (n+1) c (spN l)) (he:spE l=0) (x:List UInt8) (hx:x=(spN l).getD n []):LaR w' l (.returned (.tuple #[.slice a n c, .string (str x), .int .i64 0])):=by
 have hl:=hS.len
 have hne:spN l≠ []:=fun e=>by rw [e]at hl;simp at hl
 have e0:lsE l=0:=by unfold lsE;rw [if_pos he,if_neg hne]
 have e1:lsN l=(spN l).take n:=by unfold lsN;rw [List.dropLast_eq_take,hl];rfl
 have e2:lsS l=x:=by
  unfold lsS
  rw [hx,List.getLastD_eq_getLast?,List.getLast?_eq_getElem?,hl,List.getD_eq_getElem?_getD];rfl
 exact⟨a,n,c,by rw [e0,e2],by rw [e1];exact hS.take n (by omega)⟩
set_option maxRecDepth 100000 in
set_option maxHeartbeats 2000000 in
theorem Zat (l:List UInt8) (w:World) (hl:l.length≤5000):
 Calls Tryz.prog 22 #[.string (str l)] w fun e w'=>LaR w' l e∧Below w.heap.size w w':=by
 have H:=Z1p l w hl
 have hN0:Hid (spE l≠0→spN l= []):=fun h=>Z6g h
 have hle:Hid ((spN l).length≤16):=Z3t l
 by_cases h0:spE l=0
 · by_cases hn:spN l= []
   · have h2:Hid (lsE l=2):=by show _=_;unfold lsE;rw [if_pos h0,if_pos hn]
     have hn':Hid (spN l= []):=hn
     have H2:Calls Tryz.prog 15 #[.string (str l)] w fun e w'=>∃ a c,e= .returned (.tuple #[.slice a 0 c, .int .i64 0])∧Below w.heap.size w w':=by
      refine H.mono ?_
      rintro e w1 ⟨⟨a,n,c,rfl,hS⟩,b⟩
      have:=hS.len
      rw [hn]at this
      obtain rfl:0=n:=this
      exact⟨a,c,by rw [h0],b⟩
     clear H h0 hn
     go_enter Tryz.func22,Tryz.ntmps22
     go_wp2_with (first
      | (go_at_call 15;refine H2.mono ?_;rintro e w1 ⟨a,c,rfl,b1⟩))
     go_returns
     exact⟨Z5l _ _ 2 h2.out hn'.out,b1⟩
   · obtain⟨n,hnl⟩:∃ n,(spN l).length=n+1:=⟨(spN l).length - 1,by have:=List.length_pos_iff.2 hn;omega⟩
     have H2:Calls Tryz.prog 15 #[.string (str l)] w fun e w'=>∃ bb oo c,e= .returned (.tuple #[.slice (some ⟨bb,oo,none⟩) (n+1) c, .int .i64 0])∧Sts w' (some ⟨bb,oo,none⟩) (n+1) c (spN l)∧w'.cell? ⟨bb,oo+n,none⟩=some (.string (str ((spN l).getD n [])))∧Below w.heap.size w w':=by
      refine H.mono ?_
      rintro e w1 ⟨⟨a,m,c,rfl,hS⟩,b⟩
      have:=hS.len
      obtain rfl:n+1=m:=by omega
      obtain⟨bb,oo,rfl,hc⟩:=hS.cell (by omega)
      exact⟨bb,oo,c,by rw [h0],hS,hc n (by omega),b⟩
     have hn16:n≤16:=by have:=hle.out;omega
     obtain⟨X,hX⟩:∃ X,Hid (X=(spN l).getD n []):=⟨_,rfl⟩
     rw [← hX.out]at H2
     have h0':Hid (spE l=0):=h0
     clear H h0 hn hnl
     have a1:¬(n:Int)+1=0:=by omega
     have a2:(0:Int)≤(n:Int):=by omega
     have a3:(n:Int)≤(n:Int)+1:=by omega
     have a4:(n:Int) < (n:Int)+1:=by omega
     have a5:IntKind.i64.wrap ((n:Int)+1 - 1)=(n:Int):=by rw [IntKind.wrap_i64];omega
     go_enter Tryz.func22,Tryz.ntmps22
     go_wp2_with (first
      | (go_at_call 15;refine H2.mono ?_;rintro e w1 ⟨bb,oo,c,rfl,hS,hc,b1⟩
         have hcc:=hS.le
         have hcn:(n:Int)≤(c:Int):=by omega))
     go_region
     go_wp2
     go_returns
     exact⟨Zar (hS.later (Below.refl _ _).drew) h0'.out X hX.out,b1.drew⟩
 · have h2:Hid (lsE l=spE l):=by show _=_;unfold lsE;rw [if_neg h0]
   have hn':Hid (spN l= []):=hN0.out h0
   have H2:Calls Tryz.prog 15 #[.string (str l)] w fun e w'=>∃ a n c,e= .returned (.tuple #[.slice a n c, .int .i64 (spE l)])∧Below w.heap.size w w':=by
    refine H.mono ?_
    rintro e w1 ⟨⟨a,n,c,rfl,hS⟩,b⟩
    exact⟨a,n,c,rfl,b⟩
   clear H
   generalize spE l=E at *
   go_enter Tryz.func22,Tryz.ntmps22
   go_wp2_with (first
    | (go_at_call 15;refine H2.mono ?_;rintro e w1 ⟨a,n,c,rfl,b1⟩))
   go_returns
   exact⟨Z5l _ _ _ h2.out hn'.out,b1⟩
set_option maxRecDepth 100000 in
set_option maxHeartbeats 2000000 in
theorem Zb7 (l:List UInt8) (w:World) (hl:l.length≤5000):
 Calls Tryz.prog 109 #[.string (str l)] w fun e w'=>LaR w' l e∧Below w.heap.size w w':=by
 have H:=Z51 l w hl
 have hN0:Hid (spE l≠0→spN l= []):=fun h=>Z6g h
 have hle:Hid ((spN l).length≤16):=Z3t l
 by_cases h0:spE l=0
 · by_cases hn:spN l= []
   · have h2:Hid (lsE l=2):=by show _=_;unfold lsE;rw [if_pos h0,if_pos hn]
     have hn':Hid (spN l= []):=hn
     have H2:Calls Tryz.prog 49 #[.string (str l)] w fun e w'=>∃ a c,e= .returned (.tuple #[.slice a 0 c, .int .i64 0])∧Below w.heap.size w w':=by
      refine H.mono ?_
      rintro e w1 ⟨⟨a,n,c,rfl,hS⟩,b⟩
      have:=hS.len
      rw [hn]at this
      obtain rfl:0=n:=this
      exact⟨a,c,by rw [h0],b⟩
     clear H h0 hn
     go_enter Tryz.func109,Tryz.ntmps109
     go_wp2_with (first
      | (go_at_call 49;refine H2.mono ?_;rintro e w1 ⟨a,c,rfl,b1⟩))
     go_returns
     exact⟨Z5l _ _ 2 h2.out hn'.out,b1⟩
   · obtain⟨n,hnl⟩:∃ n,(spN l).length=n+1:=⟨(spN l).length - 1,by have:=List.length_pos_iff.2 hn;omega⟩
     have H2:Calls Tryz.prog 49 #[.string (str l)] w fun e w'=>∃ bb oo c,e= .returned (.tuple #[.slice (some ⟨bb,oo,none⟩) (n+1) c, .int .i64 0])∧Sts w' (some ⟨bb,oo,none⟩) (n+1) c (spN l)∧w'.cell? ⟨bb,oo+n,none⟩=some (.string (str ((spN l).getD n [])))∧Below w.heap.size w w':=by
      refine H.mono ?_
      rintro e w1 ⟨⟨a,m,c,rfl,hS⟩,b⟩
      have:=hS.len
      obtain rfl:n+1=m:=by omega
      obtain⟨bb,oo,rfl,hc⟩:=hS.cell (by omega)
      exact⟨bb,oo,c,by rw [h0],hS,hc n (by omega),b⟩
     have hn16:n≤16:=by have:=hle.out;omega
     obtain⟨X,hX⟩:∃ X,Hid (X=(spN l).getD n []):=⟨_,rfl⟩
     rw [← hX.out]at H2
     have h0':Hid (spE l=0):=h0
     clear H h0 hn hnl
     have a1:¬(n:Int)+1=0:=by omega
     have a2:(0:Int)≤(n:Int):=by omega
     have a3:(n:Int)≤(n:Int)+1:=by omega
     have a4:(n:Int) < (n:Int)+1:=by omega
     have a5:IntKind.i64.wrap ((n:Int)+1 - 1)=(n:Int):=by rw [IntKind.wrap_i64];omega
     go_enter Tryz.func109,Tryz.ntmps109
     go_wp2_with (first
      | (go_at_call 49;refine H2.mono ?_;rintro e w1 ⟨bb,oo,c,rfl,hS,hc,b1⟩
         have hcc:=hS.le
         have hcn:(n:Int)≤(c:Int):=by omega))
     go_region
     go_wp2
     go_returns
     exact⟨Zar (hS.later (Below.refl _ _).drew) h0'.out X hX.out,b1.drew⟩
 · have h2:Hid (lsE l=spE l):=by show _=_;unfold lsE;rw [if_neg h0]
   have hn':Hid (spN l= []):=hN0.out h0
   have H2:Calls Tryz.prog 49 #[.string (str l)] w fun e w'=>∃ a n c,e= .returned (.tuple #[.slice a n c, .int .i64 (spE l)])∧Below w.heap.size w w':=by
    refine H.mono ?_
    rintro e w1 ⟨⟨a,n,c,rfl,hS⟩,b⟩
    exact⟨a,n,c,rfl,b⟩
   clear H
   generalize spE l=E at *
   go_enter Tryz.func109,Tryz.ntmps109
   go_wp2_with (first
    | (go_at_call 49;refine H2.mono ?_;rintro e w1 ⟨a,n,c,rfl,b1⟩))
   go_returns
   exact⟨Z5l _ _ _ h2.out hn'.out,b1⟩
set_option maxRecDepth 100000
theorem Z6u {w:World} {U:Nat→Prop} {g B m n:Nat} {q:Int→Nat} {Z:Tz} {x:Int→Int} (h:Tx w U g q B Z) (hz:Z.okD m n x) (hm:m≤1000) {a:Option Addr} {N c:Nat} {L:List (List UInt8)} (hS:Sts w a N c L) (hL:∀ y ∈ L,nm y=true):
 Calls Tryz.prog 40 #[.pointer (some ⟨g,0,none⟩), .slice a N c] w fun e w'=>e= .returned (.tuple #[.int .i64 (Z.wk L 1).1, .int .i64 (Z.wk L 1).2])∧Below w.heap.size w w':=by
 obtain⟨tg,mb,ob,nb,sv,H,hU⟩:=h
 have hlen:=hS.len
 have hLn:(L.length:Int)≤9223372036854775807:=by have:=hS.le;have:=hS.cap;unfold maxLen at this;omega
 subst hlen
 obtain⟨R,hR⟩:∃ R,Hid (Z.wk L 1=R):=⟨_,rfl⟩
 rw [hR.out]
 go_enter Tryz.func40,Tryz.ntmps40
 go_wp2
 go_loopw [6,14] (fun u v wr=>∃ k:Nat,k≤L.length∧v= .int .i64 (k:Int)∧∃ i,u= .int .i64 i∧(Z.nd i).k≠0∧Hid (Z.wk (L.drop k) i=R)∧Below w.heap.size w wr) (fun _ v _=>L.length - (intOf v).toNat)
 case atStart=>exact⟨0,Nat.zero_le _,rfl,1,rfl,by rw [hz.rt];decide,by rw [List.drop_zero];exact hR,Below.refl _ _⟩
 case round=>
  obtain⟨k,hk,rfl,i,rfl,hi,hW,hB⟩:=hrel
  have Hr:=H.later hB
  by_cases hkl:(k:Int) < (L.length:Int)
  · have hkl':k < L.length:=by omega
    obtain⟨bb,o,rfl,hcs⟩:=(hS.later hB).cell (show 0 < L.length by omega)
    have ck:=hcs k hkl'
    have hd:L.drop k=L.getD k []::L.drop (k+1):=by
     rw [List.drop_eq_getElem_cons hkl',List.getD_eq_getElem?_getD,List.getElem?_eq_getElem hkl'];rfl
    have hy:nm (L.getD k [])=true:=by
     rw [List.getD_eq_getElem?_getD,List.getElem?_eq_getElem hkl'];exact hL _ (List.getElem_mem _)
    have hW2:Z.wk (L.getD k []::L.drop (k+1)) i=R:=by rw [← hd];exact hW.out
    generalize L.getD k []=y at *
    have hyl:y.length≤maxLen:=by have:=(Z3i hy).2.2;unfold maxLen;omega
    have a2:(0:Int)≤(k:Int):=by omega
    have c0:=Hr.c0
    have lo:=Hr.look hi (Z13 hz hm hi)
    have n0:=Hr.n0 hi
    unfold Tz.wk at hW2
    clear hd hcs hW
    by_cases h2:(Z.nd i).k=2
    · rw [if_pos h2]at hW2
      have n3:=Hr.n3 h2
      have lo2:=(Hr.nm i h2).2.look2 hyl
      rw [h2]at n0
      by_cases h3:lk (Z.nd i).nm y=0
      · rw [if_pos h3]at hW2
        rw [h3]at lo2
        have hR2:Hid (R=(0,40)):=hW2.symm
        clear hW2 h3
        go_wp2
        go_returns
        exact⟨by rw [hR2.out];simp,hB⟩
      · rw [if_neg h3]at hW2
        have hlv:=(Z2n hz i h3).2
        have hW3:Hid _:=hW2
        clear hW2
        generalize lk (Z.nd i).nm y=j at *
        go_wp2
        go_roundw
        case rel=>exact⟨k+1,by omega,by go_num,j,rfl,hlv,hW3,hB⟩
        case measure=>simp [intOf];omega
    · rw [if_neg h2]at hW2
      have hR2:Hid (R=(0,42)):=hW2.symm
      clear hW2
      generalize (Z.nd i).k=K at *
      go_wp2
      go_returns
      exact⟨by rw [hR2.out];simp,hB⟩
  · have hk2:k=L.length:=by omega
    subst hk2
    have hW2:=hW.out
    rw [List.drop_length]at hW2
    have hR2:Hid (R=(i,0)):=by show R=(i,0);rw [← hW2];rfl
    clear hW2 hW
    go_wp2
    go_returns
    exact⟨by rw [hR2.out];simp,hB⟩
theorem Zd6 (p:List UInt8) (w:World):Calls Tryz.prog 13 #[.pointer none, .string (str p)] w fun e w'=>e= .returned (.tuple #[.int .i64 0, .int .i64 1])∧w=w':=by
 go_enter Tryz.func13,Tryz.ntmps13
 go_wp2
 go_returns
 exact⟨rfl,rfl⟩
theorem Zbk {p:List UInt8} (h:spE p=0):∀ y ∈ spN p,nm y=true:=(Z9w (Z4u h).1).1
theorem Z2z {w:World} {U:Nat→Prop} {g B m n:Nat} {q:Int→Nat} {Z:Tz} {x:Int→Int} (h:Tx w U g q B Z) (hz:Z.okD m n x) (hm:m≤1000) (p:List UInt8) (hp:p.length≤5000):
 Calls Tryz.prog 13 #[.pointer (some ⟨g,0,none⟩), .string (str p)] w fun e w'=>e= .returned (.tuple #[.int .i64 (Z.wa p).1, .int .i64 (Z.wa p).2])∧Below w.heap.size w w':=by
 have hC:=Z1p p w hp
 unfold Tz.wa
 by_cases h1:spE p=0
 · rw [if_pos h1]
   have hN:=Zbk h1
   have hA:=fun w' (b:Below w.heap.size w w') a N c (hS:Sts w' a N c (spN p))=>Z6u (h.later b) hz hm hS hN
   have h1':Hid (spE p=0):=h1
   go_enter Tryz.func13,Tryz.ntmps13
   go_wp2_with (first
    | (go_at_call 15;refine hC.mono ?_;rintro e w1 ⟨⟨a,N,c,rfl,hS⟩,b1⟩;clear hC)
    | (go_at_call 40;refine(hA _ b1 _ _ _ hS).mono ?_;rintro e w2 ⟨rfl,b2⟩))
   go_returns
   exact⟨rfl,Z00q b1 b2 (Nat.le_refl _)⟩
 · rw [if_neg h1]
   go_enter Tryz.func13,Tryz.ntmps13
   go_wp2_with (go_at_call 15;refine hC.mono ?_;rintro e w1 ⟨⟨a,N,c,rfl,hS⟩,b1⟩;clear hC)
   go_returns
   exact⟨by simp,b1⟩
set_option maxRecDepth 100000
section
variable {ops : Array Oper} {rest : List Oper} {o : Oper} {a : Act} {w : World} {Q : Exit → Act → World → Prop}
theorem Z08 (hw:Region.wanted o (yielded ops a.tmps)=true) (ho:o.op= .alloc 145)
 (h:∀ g w',w.heap.size≤g→g < w'.heap.size→Cs w' g (spC none [] 0)→Below w.heap.size w w'→wpList Tryz.prog ops Q rest (a.put o.dst (.pointer (some ⟨g,0,none⟩))) w'):wpList Tryz.prog ops Q (o::rest) a w:=
 Z1i 145 3 _ Z1g hw ho h
theorem Z09 (hw:Region.wanted o (yielded ops a.tmps)=true) (y z:Operand) (ho:o.op= .store 145 y z) (g:Nat) (hx:a.eval y= .pointer (some ⟨g,0,none⟩)) (d:Option Nat) (s:List UInt8) (i:Int) (hy:a.eval z= .agg (spC d s i).toArray) (cs:List Value) (hR:Cs w g cs) (hl:cs.length=3)
 (h:∀ w',Cs w' g (spC d s i)→Stp (fun x=>x=g) w w'→wpList Tryz.prog ops Q rest (a.put o.dst undef) w'):wpList Tryz.prog ops Q (o::rest) a w:=
 Z1e 145 3 _ Z1g hw y z ho g hx (spC d s i) hy rfl (Z4l _ _ _) cs hR hl h
end
def paC (q:Int→Nat) (Z:Tz) (p:List UInt8) (r:Int):List Value:=if Z.paE p r=0 then spC (some (q (Z.paD p))) (lsS p) (Z.paI p)else spC none [] 0
theorem Z1r {q:Int→Nat} {Z:Tz} {p:List UInt8} {r:Int} (h:Z.paE p r=0):paC q Z p r=spC (some (q (Z.paD p))) (lsS p) (Z.paI p):=if_pos h
theorem Z1o {q:Int→Nat} {Z:Tz} {p:List UInt8} {r:Int} (h:Z.paE p r≠0):paC q Z p r=spC none [] 0:=if_neg h
theorem Z1k {w:World} {U:Nat→Prop} {g B m n:Nat} {q:Int→Nat} {Z:Tz} {x:Int→Int} (h:Tx w U g q B Z) (hz:Z.okD m n x) (hm:m≤1000) (p:List UInt8) (hp:p.length≤5000) (r:Int) (hr:r≠0):
 Calls Tryz.prog 94 #[.pointer (some ⟨g,0,none⟩), .string (str p), .int .i64 r] w fun e w'=>e= .returned (.tuple #[.agg (paC q Z p r).toArray, .int .i64 (Z.paE p r)])∧Below w.heap.size w w':=by
 have hC:=fun w'=>Zat p w' hp
 have done:∀ {w1 w2 w3:World} {gb:Nat},Below w.heap.size w w1→w.heap.size≤gb→Stp (fun y=>y=gb) w1 w2→Below w.heap.size w w2:=fun b z s=>((Stp.of_below b (fun _=>False)).next s (fun y e=> .inr (by omega))).below (Nat.le_refl _) (fun y e=>e.elim)
 by_cases h2:lsE p=2
 · have e1:Z.paE p r=r:=by unfold Tz.paE;rw [if_pos h2]
   rw [Z1o (by rw [e1];exact hr),e1]
   go_enter Tryz.func94,Tryz.ntmps94
   go_wp2_with (first
    | (refine Z08 (by rfl) (by rfl) ?_;intro gb w1 z1 z2 r1 b1)
    | (go_at_call 22;refine(hC _).mono ?_;rintro e w2 ⟨⟨a,N,c,rfl,hS⟩,b2⟩;rw [h2];have r2:=r1.later b2;have B2:=Z00q b1 b2 (Nat.le_refl _);clear hC)
    | (refine Z09 (by rfl) _ _ (by rfl) gb (by rfl) none [] 0 (by rfl) _ r2 rfl ?_;intro w3 r3 s3))
   exact bodyPost_ret (Z0d Z1g Tryz.results94 rfl rfl r3 rfl) rfl ⟨rfl,done (w3:=w3) B2 z1 s3⟩
 by_cases h0:lsE p=0
 · have hN:∀ y ∈ lsN p,nm y=true:=fun y hy=>by
    obtain⟨k1,k2,k3⟩:=Z6y h0
    exact Zbk k1 y (by rw [← k3];simp [hy])
   have hA:=fun w' (b:Below w.heap.size w w') a N c (hS:Sts w' a N c (lsN p))=>Z6u (h.later b) hz hm hS hN
   have hwl:=fun e=>Z5q hz (lsN p) 1 (by rw [hz.rt];decide) e
   by_cases h3:(Z.wk (lsN p) 1).2=0
   · have hlv:=hwl h3
     have hD:=fun w' (b:Below w.heap.size w w')=>Z1u (h.later b) hz hm hlv
     by_cases h4:(Z.nd (Z.paD p)).k=2
     · have e1:Z.paE p r=0:=by unfold Tz.paE;rw [if_neg h2,if_pos h0,if_pos h3,if_pos h4]
       rw [Z1r e1,e1]
       have hsl:(lsS p).length≤maxLen:=by have:=(Z3i (Z80 h0)).2.2;unfold maxLen;omega
       have h4':(Z.nd (Z.wk (lsN p) 1).1).k=2:=h4
       rw [h4',show decide ((2:Int)=2)=true from rfl]at hD
       have hI:Hid (lk (Z.nd (Z.wk (lsN p) 1).1).nm (lsS p)=Z.paI p):=rfl
       have hPD:Hid ((Z.wk (lsN p) 1).1=Z.paD p):=rfl
       have hwfi:wfi (Z.wk (lsN p) 1).1:=Z13 hz hm hlv
       rw [h3]at hA
       go_enter Tryz.func94,Tryz.ntmps94
       go_wp2_with (first
        | (refine Z08 (by rfl) (by rfl) ?_;intro gb w1 z1 z2 r1 b1)
        | (go_at_call 22;refine(hC _).mono ?_;rintro e w2 ⟨⟨a,N,c,rfl,hS⟩,b2⟩;rw [h0];have r2:=r1.later b2;have B2:=Z00q b1 b2 (Nat.le_refl _);clear hC)
        | (go_at_call 40;refine(hA _ B2 _ _ _ hS).mono ?_;rintro e w3 ⟨rfl,b3⟩;have r3:=r2.later b3;have B3:=Z00q B2 b3 (Nat.le_refl _);clear hA)
        | (go_at_call 104;refine(hD _ B3).mono ?_;rintro e w4 ⟨rfl,rfl⟩;clear hD
           obtain⟨tg,mb,ob,nb,sv,H,hU⟩:=h.later B3
           have c0:=H.c0
           have lo:=H.look hlv hwfi
           have n3:=H.n3 h4'
           have lo2:=(H.nm _ h4').2.look hsl)
        | (refine Z09 (by rfl) _ _ (by rfl) gb (by rfl) (some (q (Z.wk (lsN p) 1).1)) (lsS p) (lk (Z.nd (Z.wk (lsN p) 1).1).nm (lsS p)) (by rfl) _ r3 rfl ?_;intro w5 r5 s5))
       exact bodyPost_ret (Z0d Z1g Tryz.results94 rfl rfl r5 rfl) rfl ⟨rfl,done (w3:=w5) B3 z1 s5⟩
     · have e1:Z.paE p r=42:=by unfold Tz.paE;rw [if_neg h2,if_pos h0,if_pos h3,if_neg h4]
       rw [Z1o (by rw [e1];decide),e1]
       have h4':¬(Z.nd (Z.wk (lsN p) 1).1).k=2:=h4
       rw [decide_eq_false h4']at hD
       rw [h3]at hA
       go_enter Tryz.func94,Tryz.ntmps94
       go_wp2_with (first
        | (refine Z08 (by rfl) (by rfl) ?_;intro gb w1 z1 z2 r1 b1)
        | (go_at_call 22;refine(hC _).mono ?_;rintro e w2 ⟨⟨a,N,c,rfl,hS⟩,b2⟩;rw [h0];have r2:=r1.later b2;have B2:=Z00q b1 b2 (Nat.le_refl _);clear hC)
        | (go_at_call 40;refine(hA _ B2 _ _ _ hS).mono ?_;rintro e w3 ⟨rfl,b3⟩;have r3:=r2.later b3;have B3:=Z00q B2 b3 (Nat.le_refl _);clear hA)
        | (go_at_call 104;refine(hD _ B3).mono ?_;rintro e w4 ⟨rfl,rfl⟩;clear hD)
        | (refine Z09 (by rfl) _ _ (by rfl) gb (by rfl) none [] 0 (by rfl) _ r3 rfl ?_;intro w5 r5 s5))
       exact bodyPost_ret (Z0d Z1g Tryz.results94 rfl rfl r5 rfl) rfl ⟨rfl,done (w3:=w5) B3 z1 s5⟩
   · have e1:Z.paE p r=(Z.wk (lsN p) 1).2:=by unfold Tz.paE;rw [if_neg h2,if_pos h0,if_neg h3]
     rw [Z1o (by rw [e1];exact h3),e1]
     clear hwl
     go_enter Tryz.func94,Tryz.ntmps94
     go_wp2_with (first
      | (refine Z08 (by rfl) (by rfl) ?_;intro gb w1 z1 z2 r1 b1)
      | (go_at_call 22;refine(hC _).mono ?_;rintro e w2 ⟨⟨a,N,c,rfl,hS⟩,b2⟩;rw [h0];have r2:=r1.later b2;have B2:=Z00q b1 b2 (Nat.le_refl _);clear hC)
      | (go_at_call 40;refine(hA _ B2 _ _ _ hS).mono ?_;rintro e w3 ⟨rfl,b3⟩;have r3:=r2.later b3;have B3:=Z00q B2 b3 (Nat.le_refl _);clear hA)
      | (refine Z09 (by rfl) _ _ (by rfl) gb (by rfl) none [] 0 (by rfl) _ r3 rfl ?_;intro w5 r5 s5))
     exact bodyPost_ret (Z0d Z1g Tryz.results94 rfl rfl r5 rfl) rfl ⟨rfl,done (w3:=w5) B3 z1 s5⟩
 · have e1:Z.paE p r=lsE p:=by unfold Tz.paE;rw [if_neg h2,if_neg h0]
   rw [Z1o (by rw [e1];exact h0),e1]
   go_enter Tryz.func94,Tryz.ntmps94
   go_wp2_with (first
    | (refine Z08 (by rfl) (by rfl) ?_;intro gb w1 z1 z2 r1 b1)
    | (go_at_call 22;refine(hC _).mono ?_;rintro e w2 ⟨⟨a,N,c,rfl,hS⟩,b2⟩;have r2:=r1.later b2;have B2:=Z00q b1 b2 (Nat.le_refl _);clear hC)
    | (refine Z09 (by rfl) _ _ (by rfl) gb (by rfl) none [] 0 (by rfl) _ r2 rfl ?_;intro w3 r3 s3))
   exact bodyPost_ret (Z0d Z1g Tryz.results94 rfl rfl r3 rfl) rfl ⟨rfl,done (w3:=w3) B2 z1 s3⟩
set_option maxRecDepth 100000
section
variable {ops : Array Oper} {rest : List Oper} {o : Oper} {a : Act} {w : World} {Q : Exit → Act → World → Prop}
theorem Z5h (hw:Region.wanted o (yielded ops a.tmps)=true) (m x y:Operand) (ho:o.op= .mapUpdate 68 m x y) (b:Nat) (f:Int→Option Value) (hm:a.eval m= .map (some b)) (k:Int) (hx:a.eval x= .int .i64 k) (v:Value) (hy:a.eval y=v)
 (hM:MpI Tryz.prog 3 w b f) (hf:∀ k,(f k).isSome→0≤k∧k < 2048) (hk:wfi k)
 (h:∀ w',MpI Tryz.prog 3 w' b (upd f k (some v))→Stp (fun x=>x=b) w w'→wpList Tryz.prog ops Q rest (a.put o.dst undef) w'):wpList Tryz.prog ops Q (o::rest) a w:=by
 obtain⟨w',r1,r2,r3⟩:=hM.store Z7d uMn hf hk v
 refine Z4f hw _ ?_ (h w' r2 (Z3q r3))
 simp [execOp,ho,hm,hx,hy,r1]
theorem Zaf (hw:Region.wanted o (yielded ops a.tmps)=true) (ho:o.op= .makeMap 71 none)
 (h:∀ b w',w.heap.size≤b→b < w'.heap.size→MpT w' b 0 []→Below w.heap.size w w'→wpList Tryz.prog ops Q rest (a.put o.dst (.map (some b))) w'):wpList Tryz.prog ops Q (o::rest) a w:=by
 refine Z0z hw _ _ ?_ (h w.heap.size (w.alloc (.map #[] 0)) (Nat.le_refl _) (by simp) (MpT.made w) ((Below.refl _ _).alloc (Nat.le_refl _) _))
 have:(Instr.makeMap 71 none).run Tryz.prog w= .ok (.map (some w.heap.size)) (w.alloc (.map #[] 0)):=rfl
 simp [execOp,ho,this]
end
def qUp (q:Int→Nat) (i:Int) (b:Nat):Int→Nat:=fun j=>if j=i then b else q j
theorem Ze2 {q:Int→Nat} {Z:Tz} {k:Int} (hk:k≠0) (b:Nat) (h0:∀ i,(Z.nd i).k≠0→1≤i∧i.toNat < Z.N.length) (h2:1≤Z.N.length):nF (qUp q Z.top b) (Z.come k)=upd (nF q Z) Z.top (some (.pointer (some ⟨b,0,none⟩))):=by
 funext j
 unfold nF upd qUp
 rw [Z2o]
 by_cases e:j=Z.top
 · subst e
   have:Z.top.toNat=Z.N.length:=by unfold Tz.top;omega
   rw [if_pos this,if_pos rfl,if_pos rfl]
   simp [hk]
 · rw [if_neg e,if_neg e]
   by_cases e2:j.toNat=Z.N.length
   · have:j=Z.top:=by unfold Tz.top;omega
     exact absurd this e
   · rw [if_neg e2]
theorem Tw.come {w w':World} {tg:Nat→Nat} {g mb ob B:Nat} {q nb:Int→Nat} {sv:Int→Sv} {Z:Tz} (h:Tw w tg g mb ob q nb sv B Z) (h0:∀ i,(Z.nd i).k≠0→1≤i∧i.toNat < Z.N.length) (h2:1≤Z.N.length) {k:Int} (hk:k=1∨k=2) {b bm:Nat}
 (s:Stp (fun x=>x=g∨x=mb) w w') (hb:w.heap.size≤b) (hbm:w.heap.size≤bm) (hne:b≠bm) (ht:Cs w' g (trC mb ob (Z.come k))) (hM:MpI Tryz.prog 3 w' mb (upd (nF q Z) Z.top (some (.pointer (some ⟨b,0,none⟩)))))
 (hn:Cs w' b (ndC ⟨k,0, [], []⟩ Sv.nil bm)) (hT:k=2→MpT w' bm 0 []):
 Tw w' (fun x=>if x=b then 3 * Z.N.length+4 else if k=2∧x=bm then 3 * Z.N.length+6 else tg x) g mb ob (qUp q Z.top b) (fun j=>if j=Z.top then bm else nb j) (fun j=>if j=Z.top then Sv.nil else sv j) B (Z.come k):=by
 have hk0:k≠0:=by omega
 have t1:=h.tt
 have t2:=h.mt
 have lt:∀ x,tg x≠0→(if x=b then 3 * Z.N.length+4 else if k=2∧x=bm then 3 * Z.N.length+6 else tg x)=tg x:=fun x hx=>by
  have:=h.low x hx
  rw [if_neg (by omega),if_neg (by omega)]
 have N:=fun j=>Z2o (Z:=Z) k j
 have tn:Z.top.toNat=Z.N.length:=by unfold Tz.top;omega
 have et:∀ j:Int,j.toNat=Z.N.length→j=Z.top:=fun j e=>by unfold Tz.top;omega
 have off:∀ x c,tg x=c→3≤c→¬(x=g∨x=mb):=fun x c hx hc e=>by
  rcases e with e | e
  · rw [e]at hx;omega
  · rw [e]at hx;omega
 refine⟨fun x hx=>?_,fun j hj=>?_,ht,by rw [lt g (by omega)];exact t1,?_,by rw [lt mb (by omega)];exact t2,?_,fun j hj=>?_,fun j hj=>?_,fun j hj=>?_⟩
 · by_cases e:x=b
   · rw [e];exact hn.lt
   · rw [if_neg e]at hx
     by_cases e2:k=2∧x=bm
     · rw [e2.2];exact(hT e2.1).lt
     · rw [if_neg e2]at hx;exact Nat.lt_of_lt_of_le (h.low x hx) s.size
 · rw [N j]at hj
   by_cases e:j.toNat=Z.N.length
   · omega
   · rw [if_neg e]at hj;exact h.lv j hj
 · rw [Ze2 hk0 b h0 h2];exact hM
 · obtain⟨U,u1,u2⟩:=h.fd
   exact⟨U,u1.step s (fun x hx=>off x 3 (u2 x hx) (Nat.le_refl _)),fun x hx=>by have:=u2 x hx;rw [lt x (by omega)];exact this⟩
 · rw [N j]at hj ⊢
   by_cases e:j.toNat=Z.N.length
   · rw [if_pos e]
     obtain rfl:=et j e
     unfold qUp
     simp only [if_true]
     exact⟨by rw [tn],hn⟩
   · rw [if_neg e]at hj ⊢
     have e2:¬j=Z.top:=fun c=>e (by rw [c,tn])
     obtain⟨u1,u2⟩:=h.nd j hj
     unfold qUp
     simp only [if_neg e2]
     exact⟨by rw [lt _ (by omega)];exact u1,u2.step s (off _ _ u1 (by omega))⟩
 · rw [N j]at hj ⊢
   by_cases e:j.toNat=Z.N.length
   · rw [if_pos e]
     obtain rfl:=et j e
     simp only [if_true]
     exact⟨OwD.nil w',fun r hr=>by cases hr⟩
   · rw [if_neg e]at hj ⊢
     have e2:¬j=Z.top:=fun c=>e (by rw [c,tn])
     obtain⟨u1,u2⟩:=h.dt j hj
     simp only [if_neg e2]
     exact⟨u1.step s (fun r hr=>off r _ (u2 r hr) (by omega)),fun r hr=>by rw [lt r (by have:=u2 r hr;omega)];exact u2 r hr⟩
 · rw [N j]at hj ⊢
   by_cases e:j.toNat=Z.N.length
   · rw [if_pos e]at hj ⊢
     obtain rfl:=et j e
     have hj':k=2:=hj
     simp only [if_true]
     exact⟨by rw [if_neg (fun c=>hne c.symm),if_pos ⟨hj',trivial⟩,tn],(hT hj').mono (Nat.zero_le _)⟩
   · rw [if_neg e]at hj ⊢
     have e2:¬j=Z.top:=fun c=>e (by rw [c,tn])
     obtain⟨u1,u2⟩:=h.nm j hj
     simp only [if_neg e2]
     exact⟨by rw [lt _ (by omega)];exact u1,u2.step s (off _ _ u1 (by omega))⟩
theorem Zak {w:World} {U:Nat→Prop} {g B:Nat} {q:Int→Nat} {Z:Tz} (h:Tx w U g q B Z) (h2:1≤Z.N.length) (hf:Z.N.length≤1000) (h0:∀ i,(Z.nd i).k≠0→1≤i∧i.toNat < Z.N.length) (k:Int) (hk:k=1∨k=2):
 Calls Tryz.prog 25 #[.pointer (some ⟨g,0,none⟩), .int .i64 k] w fun e w'=>∃ b,e= .returned (.int .i64 Z.top)∧TxG U g (qUp q Z.top b) B (Z.come k) w w':=by
 obtain⟨tg,mb,ob,nb,sv,H,hU⟩:=h
 have c1:=H.c1
 have c0:=H.c0
 have f1:=H.tr.frozen 1
 have hgt:=H.tt
 have hmt:=H.mt
 have hgl:=H.tr.lt
 have hml:=H.mp.lt
 have hwt:wrap64 Z.top=Z.top:=by unfold wrap64 Tz.top;omega
 have hwf:wfi Z.top:=Z22 (by unfold Tz.top;omega)
 have hkeys:∀ j,(nF q Z j).isSome→0≤j∧j < 2048:=fun j hj=>by
  unfold nF at hj
  split at hj
  · cases hj
  · rename_i e;have:=h0 j e;omega
 have gm:g≠mb:=fun e=>by rw [e]at hgt;omega
 have et:(Z.come k).top - 1=Z.top:=by unfold Tz.come Tz.top;simp
 have k1:Stp (fun x=>x=g) w (w.setCell ⟨g,1,none⟩ (.int .i64 Z.top)):=(Stp.refl (fun x=>x=g) w).setCell (p:=⟨g,1,none⟩) (.inl rfl) _
 have T1:Cs (w.setCell ⟨g,1,none⟩ (.int .i64 Z.top)) g (trC mb ob (Z.come k)):=by
  have:=H.tr.set 1 (.int .i64 Z.top) rfl
  unfold trC at this ⊢
  rw [et];exact this
 have M1:=H.mp.step k1 (fun e=>gm e.symm)
 have c0':=T1.cell 0 _ (show(trC mb ob (Z.come k))[0]? =some (.map (some mb))from rfl)
 have c1':=T1.cell 1 _ (show(trC mb ob (Z.come k))[1]? =some (.int .i64 ((Z.come k).top - 1))from rfl)
 rw [et]at c1'
 have hsz:=k1.size
 rcases hk with rfl | rfl
 · go_enter Tryz.func25,Tryz.ntmps25
   go_wp2_with (refine Z2m 73 (by rfl) _ (by rfl) (ndC ⟨1,0, [], []⟩ Sv.nil 0) (by rfl) (by simp [ndC,Value.oneCell']) ?_;intro b w1 z1 z2 r1 b1)
   have T2:=T1.later b1
   have M2:=M1.later b1
   refine Z0p (S:=fun u=>Below w1.heap.size w1 u) _ _ (by simp only [List.pop_toArray,List.dropLast_cons_cons,List.dropLast_singleton];rfl) (by simp only [List.back?_toArray,List.getLast?_cons_cons,List.getLast?_singleton];rfl) (by kernel_rfl) (by kernel_rfl) (Below.refl _ _).drew (fun hHeld=>?_)
   refine tl 0 (.pointer (some ⟨g,0,none⟩)) rfl ?_
   try simp only [z]
   refine tl 1 (.pointer (some ⟨g,0,none⟩)) rfl ?_
   try simp only [z]
   refine tl 2 (.pointer (some ⟨g,0,none⟩)) rfl ?_
   try simp only [z]
   refine tl 3 (.map (some mb)) rfl ?_ (fun u hu=>by have x1:=(T2.later hu).cell 0 _ rfl;go_simp)
   try simp only [z]
   refine tl 4 (.pointer (some ⟨g,0,none⟩)) rfl ?_
   try simp only [z]
   refine tl 5 (.pointer (some ⟨g,0,none⟩)) rfl ?_
   try simp only [z]
   refine tl 6 (.pointer (some ⟨g,1,none⟩)) rfl ?_
   try simp only [z]
   refine tl 7 (.int .i64 Z.top) rfl ?_ (fun u hu=>by have x1:=(T2.later hu).cell 1 _ rfl;rw [et]at x1;go_simp)
   try simp only [z]
   refine tl 8 (.pointer (some ⟨b,0,none⟩)) rfl ?_
   try simp only [z]
   refine wpAnyH_done (by kernel_rfl) ?_ _
   have T3:=T2.later hHeld
   have M3:=M2.later hHeld
   have r3:=r1.later hHeld
   have zz:=hHeld.size
   have b3:=Z00q b1 hHeld (Nat.le_refl _)
   generalize w1.drew=w3 at *
   show wpList _ _ _ [_] _ _
   refine Z5h (by rfl) _ _ _ (by rfl) mb (nF q Z) (by rfl) Z.top (by rfl) (.pointer (some ⟨b,0,none⟩)) (by rfl) M3 hkeys hwf ?_
   intro w4 m4 s4
   have bmb:b≠mb:=by omega
   have T4:=T3.step s4 gm
   have r4:=r3.step s4 bmb
   have d1:=T4.cell 1 _ rfl
   rw [et]at d1
   go_wp2_with fail
   go_returns
   have S4:Stp (fun x=>x=g∨x=mb) w w4:=((k1.mono (fun x e=> .inl (.inl e))).trans (Stp.of_below b3 _)).next s4 (fun x e=> .inl (.inr e))
   have h0':=hsz
   have m4':MpI Tryz.prog 3 w4 mb (upd (nF q Z) Z.top (some (.pointer (some ⟨b,0,none⟩)))):=m4
   have F:=H.come h0 h2 (k:=1) (.inl rfl) (b:=b) (bm:=b+1) S4 (by omega) (by omega) (by omega) T4 m4' r4 (fun e=>by cases e)
   refine⟨b,rfl,Z4m hU F (S4.mono (fun y e=> .inl ((hU y).2 (by rcases e with e | e<;>subst e<;>omega)))) (fun y hy=>?_)⟩
   by_cases e:y=b
   · exact .inr (by omega)
   · rw [if_neg e,if_neg (fun c=>by cases c.1)]at hy;exact .inl hy
 · have tk:Hid True:=trivial
   go_enter Tryz.func25,Tryz.ntmps25
   go_wp2_with (first
    | (refine Z2m 73 (by rfl) _ (by rfl) (ndC ⟨2,0, [], []⟩ Sv.nil 0 |>.set 3 (.map none)) (by rfl) (by simp [ndC,Value.oneCell']) ?_;intro b w1 z1 z2 r1 b1
       have T2:=T1.later b1
       have M2:=M1.later b1)
    | (clear tk;refine Zaf (by rfl) (by rfl) ?_;intro bm w2 z3 z4 p2 b2
       have T2':=T2.later b2
       have M2':=M2.later b2
       have r2:=r1.later b2
       have f3:=r2.frozen 3
       have c3:=r2.cell 3 _ rfl))
   have nbm:b≠bm:=by omega
   have k5:Stp (fun x=>x=b) w2 (w2.setCell ⟨b,3,none⟩ (.map (some bm))):=(Stp.refl (fun x=>x=b) w2).setCell (p:=⟨b,3,none⟩) (.inl rfl) _
   have r5:=r2.set 3 (.map (some bm)) rfl
   have T5:=T2'.step k5 (fun e=>by omega)
   have M5:=M2'.step k5 (fun e=>by omega)
   have p5:=p2.step k5 (fun e=>nbm e.symm)
   have zz5:=k5.size
   generalize w2.setCell ⟨b,3,none⟩ (.map (some bm))=w5 at *
   refine Z0p (S:=fun u=>Below w5.heap.size w5 u) _ _ (by simp only [List.pop_toArray,List.dropLast_cons_cons,List.dropLast_singleton];rfl) (by simp only [List.back?_toArray,List.getLast?_cons_cons,List.getLast?_singleton];rfl) (by kernel_rfl) (by kernel_rfl) (Below.refl _ _).drew (fun hHeld=>?_)
   refine tl 0 (.pointer (some ⟨g,0,none⟩)) rfl ?_
   try simp only [z]
   refine tl 1 (.pointer (some ⟨g,0,none⟩)) rfl ?_
   try simp only [z]
   refine tl 2 (.pointer (some ⟨g,0,none⟩)) rfl ?_
   try simp only [z]
   refine tl 3 (.map (some mb)) rfl ?_ (fun u hu=>by have x1:=(T5.later hu).cell 0 _ rfl;go_simp)
   try simp only [z]
   refine tl 4 (.pointer (some ⟨g,0,none⟩)) rfl ?_
   try simp only [z]
   refine tl 5 (.pointer (some ⟨g,0,none⟩)) rfl ?_
   try simp only [z]
   refine tl 6 (.pointer (some ⟨g,1,none⟩)) rfl ?_
   try simp only [z]
   refine tl 7 (.int .i64 Z.top) rfl ?_ (fun u hu=>by have x1:=(T5.later hu).cell 1 _ rfl;rw [et]at x1;go_simp)
   try simp only [z]
   refine tl 8 (.pointer (some ⟨b,0,none⟩)) rfl ?_
   try simp only [z]
   refine wpAnyH_done (by kernel_rfl) ?_ _
   have T3:=T5.later hHeld
   have M3:=M5.later hHeld
   have r3:=r5.later hHeld
   have p3:=p5.later hHeld
   have zz:=hHeld.size
   generalize w5.drew=w3 at *
   show wpList _ _ _ [_] _ _
   refine Z5h (by rfl) _ _ _ (by rfl) mb (nF q Z) (by rfl) Z.top (by rfl) (.pointer (some ⟨b,0,none⟩)) (by rfl) M3 hkeys hwf ?_
   intro w4 m4 s4
   have bmb:b≠mb:=by omega
   have bmm:bm≠mb:=by omega
   have T4:=T3.step s4 gm
   have r4:=r3.step s4 bmb
   have p4:=p3.step s4 bmm
   have d1:=T4.cell 1 _ rfl
   rw [et]at d1
   go_wp2_with fail
   go_returns
   have S4:Stp (fun x=>x=g∨x=mb) w w4:=(((((k1.mono (fun x e=> .inl (.inl e))).trans (Stp.of_below b1 _)).trans (Stp.of_below b2 _)).next k5 (fun x e=> .inr (by omega))).trans (Stp.of_below hHeld _)).next s4 (fun x e=> .inl (.inr e))
   have m4':MpI Tryz.prog 3 w4 mb (upd (nF q Z) Z.top (some (.pointer (some ⟨b,0,none⟩)))):=m4
   have F:=H.come h0 h2 (k:=2) (.inr rfl) (b:=b) (bm:=bm) S4 (by omega) (by omega) nbm T4 m4' r4 (fun _=>p4)
   refine⟨b,rfl,Z4m hU F (S4.mono (fun y e=> .inl ((hU y).2 (by rcases e with e | e<;>subst e<;>omega)))) (fun y hy=>?_)⟩
   by_cases e:y=b
   · exact .inr (by omega)
   · rw [if_neg e]at hy
     by_cases e2:y=bm
     · exact .inr (by omega)
     · rw [if_neg (fun c=>e2 c.2)]at hy;exact .inl hy
theorem Z7l {w:World} {U:Nat→Prop} {g B m n:Nat} {q:Int→Nat} {Z:Tz} {x:Int→Int} (h:Tx w U g q B Z) (hz:Z.okD m n x) (hm:m≤1000) (k:Int) (hk:k=1∨k=2):
 Calls Tryz.prog 25 #[.pointer (some ⟨g,0,none⟩), .int .i64 k] w fun e w'=>∃ b,e= .returned (.int .i64 Z.top)∧TxG U g (qUp q Z.top b) B (Z.come k) w w':=
 Zak h (by have:=hz.two;omega) (Nat.le_trans hz.few hm) (fun i=>hz.live (i:=i)) k hk
end Go.Proofs.YtdnjddpfcgginaaGreat
