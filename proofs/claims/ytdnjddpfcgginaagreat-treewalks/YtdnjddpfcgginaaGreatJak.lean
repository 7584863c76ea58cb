/-
  Texts of my own, joined: no statement is proved here.
-/
import Derived.Laws.Cover3
import Derived.Test.YtdnjddpfcgginaaGreatRows
import Derived.Laws.RangeAny
import Derived.Laws.IdiomStrings
import Derived.WalkMore
import Derived.ScopeJumps
import Derived.Test.YtdnjddpfcgginaaGreatJai
set_option linter.unusedSimpArgs false
set_option linter.unusedVariables false
namespace Go.Proofs.YtdnjddpfcgginaaGreat
open Go.ChangeShapes Go.WideShapes Go.ChangeAt Go.RowKit
theorem Zc8 (l:List UInt8) (f k:Nat) (hk:k < l.length) (hf:f≤k) (h:l.getD k 0=47) (hno:∀ j,f≤j→j < k→l.getD j 0≠47):prt (l.drop f)=(l.take k).drop f::prt (l.drop (k+1)):=by
 have e:l.drop f=(l.take k).drop f++47::l.drop (k+1):=by
  have e1:l=l.take k++l.drop k:=(List.take_append_drop k l).symm
  have e2:l.drop k=l[k]::l.drop (k+1):=List.drop_eq_getElem_cons hk
  have e3:l[k]=47:=by rw [List.getD_eq_getElem?_getD,List.getElem?_eq_getElem hk]at h;exact h
  rw [e3]at e2
  have e4:l.drop f=(l.take k++l.drop k).drop f:=by rw [← e1]
  rw [e4,List.drop_append_of_le_length (by simp;omega),e2]
 rw [e]
 refine Z6n _ _ (fun b hb=>?_)
 obtain⟨j,hj,rfl⟩:=List.getElem_of_mem hb
 simp at hj
 have:=hno (f+j) (by omega) (by omega)
 rw [List.getD_eq_getElem?_getD,List.getElem?_eq_getElem (by omega)]at this
 simpa using this
theorem Zc7 (l:List UInt8) (f:Nat) (hno:∀ j,f≤j→j < l.length→l.getD j 0≠47):prt (l.drop f)= [l.drop f]:=by
 refine Z6p _ (fun b hb=>?_)
 obtain⟨j,hj,rfl⟩:=List.getElem_of_mem hb
 simp at hj
 have:=hno (f+j) (by omega) (by omega)
 rw [List.getD_eq_getElem?_getD,List.getElem?_eq_getElem (by omega)]at this
 simpa using this
set_option maxRecDepth 100000 in
set_option maxHeartbeats 2000000 in
theorem Z9q (l:List UInt8) (w:World) (hl:l.length≤5000):
 Calls Tryz.prog 88 #[.string (str l), .int .u8 47] w fun e w'=>∃ v,e= .returned v∧OwT w.heap.size w' v (prt l)∧Below w.heap.size w w':=by
 have hz:=Z1d l
 have hsub:=Z9l l
 have hidx:∀ (k:Nat) (h:k < (str l).size),(str l)[k]'h=l.getD k 0:=fun k h=>Z6v l k h
 go_enter Tryz.func88,Tryz.ntmps88
 go_wp2_with (first
  | (refine Z91 (B:=w.heap.size) (by rfl) (by rfl) (Nat.le_refl _) ?_;intro g1 w1 o1 b1))
 go_loopw [5,6,7] (fun ov fv iv wr=>∃ (f k:Nat) (D:List (List UInt8)),f≤k∧k≤l.length∧fv= .int .i64 (f:Int)∧iv= .int .i64 (k:Int)∧D.length≤k∧prt l=D++prt (l.drop f)∧(∀ j,f≤j→j < k→l.getD j 0≠47)∧OwT w.heap.size wr ov D∧Below w.heap.size w wr) (fun _ _ iv _=>l.length - (intOf iv).toNat)
 case atStart=>exact⟨0,0, [],by omega,by omega,rfl,rfl,by simp,by simp,fun j _ h=>absurd h (by omega),o1,b1⟩
 case round=>
  obtain⟨f,k,D,hf,hk,rfl,rfl,hD,hp,hno,hO,hB⟩:=hrel
  have hP:Hid (prt l=D++prt (l.drop f)):=hp
  clear hp
  by_cases hlt:k < l.length
  · have hlt':(k:Int) < l.length:=by omega
    have hidk:∀ h,(str l)[k]'h=l.getD k 0:=hidx k
    have hs:=hsub f k
    have hstep:=Zc8 l f k hlt hf
    have hN:Hid (∀ j,f≤j→j < k→l.getD j 0≠47):=hno
    have hb0:Hid (∀ b,b=l.getD k 0→b≠47→∀ j,f≤j→j < k+1→l.getD j 0≠47):=fun b hb hne j h1 h2=>by
     by_cases e:j < k
     · exact hN.out j h1 e
     · obtain rfl:j=k:=by omega
       rw [← hb];exact hne
    have hst:Hid (∀ b,b=l.getD k 0→b=47→prt (l.drop f)=(l.take k).drop f::prt (l.drop (k+1))):=fun b hb e=>hstep (by rw [← hb];exact e) hN.out
    clear hno hstep hidx hsub
    have c1:(f:Int)≤(k:Int):=by omega
    have c2:(k:Int)≤(l.length:Int):=by omega
    have c0:(0:Int)≤(f:Int):=by omega
    obtain⟨b,hb⟩:∃ b,Hid (b=l.getD k 0):=⟨_,rfl⟩
    rw [← hb.out]at hidk
    by_cases g:(b.toNat:Int)=47
    · have e47:b=47:=UInt8.toNat_inj.1 (show b.toNat=47 by omega)
      have hnx:Hid (prt l=(D++ [(l.take k).drop f])++prt (l.drop (k+1))):=by show _=_;rw [hP.out,hst.out b hb.out e47];simp
      clear hst hb0 hP
      generalize (l.take k).drop f=X at *
      go_wp2_with (first
       | (refine Z63 (by rfl) _ (by rfl) X (by rfl) ?_;intro g2 w2 a2 o2 b2;have hO2:=hO.later b2;have hB2:=Z00q hB b2 (Nat.le_refl _))
       | (refine Z5c w.heap.size rfl _ _ (by rfl) (by rfl) hO2 _ 1 1 (by rfl) o2 (by omega) hB2.size ?_;intro v3 w3 o3 s3))
      go_roundw
      case rel=>exact⟨k+1,k+1,D++ [X],Nat.le_refl _,by omega,by go_num,by go_num,by simp;omega,hnx.out,fun j h1 h2=>absurd h2 (by omega),o3,((Stp.of_below hB2 (fun x=>w.heap.size≤x)).next s3 (fun _ h=> .inl h)).below (Nat.le_refl _) (fun _ h=>h)⟩
      case measure=>simp [intOf];omega
    · have ne47:b≠47:=fun e=>g (by rw [e];rfl)
      have hno2:=hb0.out b hb.out ne47
      have hN2:Hid (∀ j,f≤j→j < k+1→l.getD j 0≠47):=hno2
      clear hno2 hb0 hst
      go_wp2
      go_roundw
      case rel=>exact⟨f,k+1,D,by omega,by omega,by go_num,by go_num,by omega,hP.out,hN2.out,hO,hB⟩
      case measure=>simp [intOf];omega
  · have hk':k=l.length:=by omega
    subst hk'
    have hs:=hsub f l.length
    rw [List.take_length]at hs
    have hnx:Hid (prt l=D++ [l.drop f]):=by show _=_;rw [hP.out,Zc7 l f hno]
    clear hP hno hidx hsub
    have c1:(f:Int)≤(l.length:Int):=by omega
    have c0:(0:Int)≤(f:Int):=by omega
    generalize l.drop f=X at *
    go_wp2_with (first
     | (refine Z63 (by rfl) _ (by rfl) X (by rfl) ?_;intro g2 w2 a2 o2 b2;have hO2:=hO.later b2;have hB2:=Z00q hB b2 (Nat.le_refl _))
     | (refine Z5c w.heap.size rfl _ _ (by rfl) (by rfl) hO2 _ 1 1 (by rfl) o2 (by omega) hB2.size ?_;intro v3 w3 o3 s3))
    go_returns
    exact⟨_,rfl,by rw [hnx.out];exact o3,((Stp.of_below hB2 (fun x=>w.heap.size≤x)).next s3 (fun _ h=> .inl h)).below (Nat.le_refl _) (fun _ h=>h)⟩
theorem Z64 {l:List UInt8} {x:List UInt8} (h:l≠x):(l==x)=false:=by simpa using h
set_option maxRecDepth 100000 in
theorem Z9s (l:List UInt8) (w:World):Calls Tryz.prog 83 #[.string (str l)] w fun e w'=>e= .returned (.bool (nm l))∧Below w.heap.size w w':=by
 have hz:=Z1d l
 have ht:=Z15 l
 by_cases h1:(l.length:Int) < 1
 · rw [Z48 (fun h=>by have:=h.1;omega)]
   go_enter Tryz.func83,Tryz.ntmps83
   go_wp2
   go_returns
   exact⟨rfl,Below.refl _ _⟩
 by_cases h2:10 < (l.length:Int)
 · rw [Z48 (fun h=>by have:=h.2.1;omega)]
   go_enter Tryz.func83,Tryz.ntmps83
   go_wp2
   go_returns
   exact⟨rfl,Below.refl _ _⟩
 by_cases h3:l= [46]
 · rw [Z48 (fun h=>h.2.2.1 h3)]
   subst h3
   go_enter Tryz.func83,Tryz.ntmps83
   go_wp2
   go_returns
   exact⟨rfl,Below.refl _ _⟩
 by_cases h4:l= [46,46]
 · rw [Z48 (fun h=>h.2.2.2 h4)]
   subst h4
   go_enter Tryz.func83,Tryz.ntmps83
   go_wp2
   go_returns
   exact⟨rfl,Below.refl _ _⟩
 have hd:Hid (hdOk l):=⟨by omega,by omega,h3,h4⟩
 have e3:=Z64 h3
 have e4:=Z64 h4
 clear h3 h4
 obtain⟨B,hB⟩:∃ B,Hid (nm l=B):=⟨_,rfl⟩
 rw [hB.out]
 go_enter Tryz.func83,Tryz.ntmps83
 go_wp2
 go_loopw [] (fun wr=>∃ k:Nat,wr=w.iter (str l) k∧k≤l.length∧∀ j,j < k→okB (l.getD j 0)) (fun wr=>l.length - wr.iterPos w.heap.size)
 case atStart=>exact⟨0,rfl,Nat.zero_le _,fun j hj=>absurd hj (by omega)⟩
 case round=>
  obtain⟨k,rfl,hk,hall⟩:=hrel
  have hbel:Below w.heap.size w (w.iter (str l) k):=(Below.refl _ _).alloc (Nat.le_refl _) _
  by_cases hlt:k < l.length
  · have hlt':k < (str l).size:=by rw [Z1d];exact hlt
    have hget:=Z6v l k hlt'
    have hA:Hid (∀ j,j < k→okB (l.getD j 0)):=hall
    clear hall
    have hbad:¬okB (l.getD k 0)→Hid (nm l=false):=fun h=>Zas k hlt h
    by_cases ha:(l.getD k 0).toNat < 128
    · have hnx:=fun ty=>run_next_ascii (P:=Tryz.prog) w (str l) k ty hlt' (by rw [hget];exact ha)
      rw [hget]at hnx
      have hon:okB (l.getD k 0)→Hid (∀ j,j < k+1→okB (l.getD j 0)):=fun h j hj=>by
       by_cases hj2:j < k
       · exact hA.out j hj2
       · obtain rfl:j=k:=by omega
         exact h
      have bel2:Below w.heap.size w (w.iter (str l) (k+1)):=(Below.refl _ _).alloc (Nat.le_refl _) _
      clear hget
      generalize l.getD k 0=b at *
      by_cases g1:(b.toNat:Int) < 33
      · have:=hbad (fun h=>by have:=h.1;omega)
        go_wp2
        go_returns
        exact⟨by rw [← hB.out,this.out];rfl,bel2⟩
      by_cases g2:126 < (b.toNat:Int)
      · have:=hbad (fun h=>by have:=h.2.1;omega)
        go_wp2
        go_returns
        exact⟨by rw [← hB.out,this.out];rfl,bel2⟩
      by_cases g3:(b.toNat:Int)=47
      · have:=hbad (fun h=>by have:=h.2.2;omega)
        go_wp2
        go_returns
        exact⟨by rw [← hB.out,this.out];rfl,bel2⟩
      have ho:=hon ⟨by omega,by omega,by omega⟩
      go_wp2
      go_roundw
      case rel=>exact⟨k+1,rfl,by omega,ho.out⟩
      case measure=>simp;omega
    · have hnx:=fun ty=>run_next_any (P:=Tryz.prog) w (str l) k ty hlt'
      have hd2:=decode_high (str l) k hlt' (by rw [hget];omega)
      have:=hbad (fun h=>by have:=h.2.1;omega)
      have bel2:∀ j,Below w.heap.size w (w.iter (str l) j):=fun j=>(Below.refl _ _).alloc (Nat.le_refl _) _
      generalize Utf8.decode (str l) k=D at *
      obtain⟨d,m⟩:=D
      simp only at hd2 hnx
      have g1:¬(d:Int) < 33:=by omega
      have g2:126 < (d:Int):=by omega
      go_wp2
      go_returns
      exact⟨by rw [← hB.out,this.out];rfl,bel2 _⟩
  · obtain rfl:k=l.length:=by omega
    have hnx:=fun ty=>run_next_end (P:=Tryz.prog) w (str l) l.length ty (by rw [Z1d];omega)
    have hN:Hid (nm l=true):=Zar hd.out hall
    clear hall
    go_wp2
    go_returns
    exact⟨by rw [← hB.out,hN.out];rfl,hbel⟩
theorem Z42 (l:List UInt8) (w:World):Calls Tryz.prog 44 #[.string (str l)] w fun e w'=>e= .returned (.int .i64 (nE l))∧Below w.heap.size w w':=by
 have H:=Z9s l
 unfold nE
 generalize nm l=B at *
 cases B with
 | true=>
   rw [if_pos rfl]
   go_enter Tryz.func44,Tryz.ntmps44
   go_wp2_with (go_at_call 83;refine(H _).mono ?_;rintro e u ⟨rfl,b⟩)
   go_returns
   exact⟨rfl,b⟩
 | false=>
   rw [if_neg (by decide)]
   go_enter Tryz.func44,Tryz.ntmps44
   go_wp2_with (go_at_call 83;refine(H _).mono ?_;rintro e u ⟨rfl,b⟩)
   go_returns
   exact⟨rfl,b⟩
set_option maxRecDepth 100000 in
theorem Z9w (l:List UInt8) (w:World):Calls Tryz.prog 89 #[.string (str l)] w fun e w'=>e= .returned (.int .i64 (nE l))∧w=w':=by
 have hz:=Z1d l
 have ht:=Z15 l
 have no:nm l=false→nE l=45:=fun h=>by unfold nE;rw [h];rfl
 have yes:nm l=true→nE l=0:=fun h=>by unfold nE;rw [if_pos h]
 by_cases h1:(l.length:Int) < 1
 · rw [no (Z48 (fun h=>by have:=h.1;omega))]
   clear no yes
   go_enter Tryz.func89,Tryz.ntmps89
   go_wp2
   go_returns
   exact⟨rfl,rfl⟩
 by_cases h2:10 < (l.length:Int)
 · rw [no (Z48 (fun h=>by have:=h.2.1;omega))]
   clear no yes
   go_enter Tryz.func89,Tryz.ntmps89
   go_wp2
   go_returns
   exact⟨rfl,rfl⟩
 by_cases h3:l= [46]
 · rw [no (Z48 (fun h=>h.2.2.1 h3))]
   clear no yes
   subst h3
   go_enter Tryz.func89,Tryz.ntmps89
   go_wp2
   go_returns
   exact⟨rfl,rfl⟩
 by_cases h4:l= [46,46]
 · rw [no (Z48 (fun h=>h.2.2.2 h4))]
   clear no yes
   subst h4
   go_enter Tryz.func89,Tryz.ntmps89
   go_wp2
   go_returns
   exact⟨rfl,rfl⟩
 have hd:Hid (hdOk l):=⟨by omega,by omega,h3,h4⟩
 have e3:=Z64 h3
 have e4:=Z64 h4
 have hB0:∀ k,k < l.length→¬okB (l.getD k 0)→Hid (nE l=45):=fun k hk h=>no (Zas k hk h)
 have hB1:(∀ k,k < l.length→okB (l.getD k 0))→Hid (nE l=0):=fun h=>yes (Zar hd.out h)
 clear h3 h4 no yes
 obtain⟨B,hB⟩:∃ B,Hid (nE l=B):=⟨_,rfl⟩
 rw [hB.out]
 have hidx:∀ (k:Nat) (h:k < (str l).size),(str l)[k]'h=l.getD k 0:=fun k h=>Z6v l k h
 go_enter Tryz.func89,Tryz.ntmps89
 go_wp2
 go_loopw [3] (fun iv wr=>∃ k:Nat,iv= .int .i64 k∧wr=w∧k≤l.length∧∀ j,j < k→okB (l.getD j 0)) (fun iv _=>l.length - (intOf iv).toNat)
 case atStart=>exact⟨0,rfl,rfl,Nat.zero_le _,fun j hj=>absurd hj (by omega)⟩
 case round=>
  obtain⟨k,rfl,rfl,hk,hall⟩:=hrel
  by_cases hlt:k < l.length
  · have hlt':(k:Int) < l.length:=by omega
    have hA:Hid (∀ j,j < k→okB (l.getD j 0)):=hall
    clear hall
    have hbad:=hB0 k hlt
    have hidk:∀ h,(str l)[k]'h=l.getD k 0:=hidx k
    have hon:okB (l.getD k 0)→Hid (∀ j,j < k+1→okB (l.getD j 0)):=fun h j hj=>by
     by_cases hj2:j < k
     · exact hA.out j hj2
     · obtain rfl:j=k:=by omega
       exact h
    clear hidx
    generalize l.getD k 0=b at *
    by_cases g1:(b.toNat:Int) < 33
    · have:=hbad (fun h=>by have:=h.1;omega)
      go_wp2
      go_returns
      exact⟨by rw [← hB.out,this.out];rfl,rfl⟩
    by_cases g2:126 < (b.toNat:Int)
    · have:=hbad (fun h=>by have:=h.2.1;omega)
      go_wp2
      go_returns
      exact⟨by rw [← hB.out,this.out];rfl,rfl⟩
    by_cases g3:(b.toNat:Int)=47
    · have:=hbad (fun h=>by have:=h.2.2;omega)
      go_wp2
      go_returns
      exact⟨by rw [← hB.out,this.out];rfl,rfl⟩
    have ho:=hon ⟨by omega,by omega,by omega⟩
    go_wp2
    go_roundw
    case rel=>exact⟨k+1,by go_num,trivial,by omega,ho.out⟩
    case measure=>simp [intOf];omega
  · obtain rfl:k=l.length:=by omega
    have hN:=hB1 hall
    clear hall hB0 hB1
    go_wp2
    go_returns
    exact⟨by rw [← hB.out,hN.out];rfl,rfl⟩
theorem Zdc (R:List UInt8):prt R=ctA R::(if ctF R=true then prt (ctB R)else [])∧(ctB R).length+(if ctF R=true then 1 else 0) < R.length+1∧(ctB R).length≤R.length:=by
 unfold ctA ctB ctF
 rcases Z6o R with⟨h1,h2⟩ | ⟨i,h1,h2,h3⟩
 · rw [h1];simp [h2]
 · rw [h1]
   have hne:¬(i:Int)= -1:=by omega
   simp [hne,h3];omega
theorem Zfc {l:List UInt8} (h:l.head?≠some 47):spE l=45:=by
 unfold spE
 rw [if_neg (fun e=>by subst e;exact h rfl)]
 cases l with
 | nil=>rfl
 | cons b r=>
   obtain⟨x,xs,e1,e2⟩:=Z4h (b:=b) (fun e=>h (by subst e;rfl)) r
   rw [e2]
theorem Z9k {r:List UInt8} (h:r≠ []):spE (47::r)=jE (prt r):=by
 unfold spE
 rw [if_neg (fun e=>by injection e with _ e;exact h e),Z2s]
 cases e:prt r with
 | nil=>exact absurd e (Z68 r)
 | cons x xs=>rfl
theorem Ze1 {r:List UInt8} (h:r≠ []) (he:jE (prt r)=0):spN (47::r)=prt r:=by
 unfold spN
 rw [if_pos ⟨by rw [Z9k h];exact he,fun e=>by injection e with _ e;exact h e⟩,Z2s];rfl
def mzV (v b:Value):Nat:=(match v with | .string s=>s.size | _=>0)+(match b with | .bool true=>1 | _=>0)
theorem Zbf (D:List (List UInt8)) (X:List UInt8):(D.length≤16→(D++ [X]).take 17=D.take 17++ [X])∧(16 < D.length→(D++ [X]).take 17=D.take 17):=by
 refine⟨fun h=>?_,fun h=>?_⟩
 · rw [List.take_of_length_le (by simp;omega),List.take_of_length_le (by omega)]
 · rw [List.take_append_of_le_length (by omega)]
def SpR (w':World) (l:List UInt8) (e:Ending):Prop:=∃ a n c,e= .returned (.tuple #[.slice a n c, .int .i64 (spE l)])∧Sts w' a n c (spN l)
theorem Z3f (w':World) (l:List UInt8) (k:Int) (h:spE l=k) (hk:k≠0):SpR w' l (.returned (.tuple #[.slice none 0 0, .int .i64 k])):=
 ⟨none,0,0,by rw [h],by rw [Z6d (by rw [h];exact hk)];exact Sts.nilSlice _⟩
theorem fr38 (t:Array Value) (h:t.size=38):∃ vv0 vv1 vv2 vv3 vv4 vv5 vv6 vv7 vv8 vv9 vv10 vv11 vv12 vv13 vv14 vv15 vv16 vv17 vv18 vv19 vv20 vv21 vv22 vv23 vv24 vv25 vv26 vv27 vv28 vv29 vv30 vv31 vv32 vv33 vv34 vv35 vv36 vv37:Value,t=#[vv0,vv1,vv2,vv3,vv4,vv5,vv6,vv7,vv8,vv9,vv10,vv11,vv12,vv13,vv14,vv15,vv16,vv17,vv18,vv19,vv20,vv21,vv22,vv23,vv24,vv25,vv26,vv27,vv28,vv29,vv30,vv31,vv32,vv33,vv34,vv35,vv36,vv37]:=by
 obtain⟨l⟩:=t
 have h':l.length=38:=h
 clear h
 rcases l with _ | ⟨vv0,_ | ⟨vv1,_ | ⟨vv2,_ | ⟨vv3,_ | ⟨vv4,_ | ⟨vv5,_ | ⟨vv6,_ | ⟨vv7,_ | ⟨vv8,_ | ⟨vv9,_ | ⟨vv10,_ | ⟨vv11,_ | ⟨vv12,_ | ⟨vv13,_ | ⟨vv14,_ | ⟨vv15,_ | ⟨vv16,_ | ⟨vv17,_ | ⟨vv18,_ | ⟨vv19,_ | ⟨vv20,_ | ⟨vv21,_ | ⟨vv22,_ | ⟨vv23,_ | ⟨vv24,_ | ⟨vv25,_ | ⟨vv26,_ | ⟨vv27,_ | ⟨vv28,_ | ⟨vv29,_ | ⟨vv30,_ | ⟨vv31,_ | ⟨vv32,_ | ⟨vv33,_ | ⟨vv34,_ | ⟨vv35,_ | ⟨vv36,_ | ⟨vv37,_ | ⟨vvy,lly⟩⟩⟩⟩⟩⟩⟩⟩⟩⟩⟩⟩⟩⟩⟩⟩⟩⟩⟩⟩⟩⟩⟩⟩⟩⟩⟩⟩⟩⟩⟩⟩⟩⟩⟩⟩⟩⟩⟩
 all_goals first | exact⟨_,_,_,_,_,_,_,_,_,_,_,_,_,_,_,_,_,_,_,_,_,_,_,_,_,_,_,_,_,_,_,_,_,_,_,_,_,_,rfl⟩ | (simp at h')
section
variable {Q : Exit → Act → World → Prop} {a : Act} {w : World} {l : Nat} {J : Act → World → Prop}
theorem Z4s:Exit.jump l J Q .ret a w=Q .ret a w:=rfl
end
def JmpS (l:List UInt8) (w:World) (a':Act) (w':World):Prop:=a'.tmps.size=38∧a'.defers= []∧spE l=45∧Below w.heap.size w w'
set_option maxRecDepth 100000 in
set_option maxHeartbeats 4000000 in
theorem Z1u (l:List UInt8) (w:World) (hl:l.length≤5000):
 Calls Tryz.prog 15 #[.string (str l)] w fun e w'=>SpR w' l e∧Below w.heap.size w w':=by
 have H1:=Zc6 l
 have ht:=Z15 l
 by_cases h1:l.head? =some 47
 · cases l with
   | nil=>cases h1
   | cons b r=>
     obtain rfl:b=47:=by simpa using h1
     rw [if_pos h1,decide_eq_true h1]at H1
     simp only [List.tail_cons]at H1
     cases r with
     | nil=>
       have fin:∀ w',SpR w' [47] (.returned (.tuple #[.slice none 0 0, .int .i64 0])):=fun w'=>⟨none,0,0,by simp [spE],by rw [show spN [47]= [] by simp [spN]];exact Sts.nilSlice _⟩
       go_enter Tryz.func15,Tryz.ntmps15
       go_wp2
       go_step3
       go_wp2_with (first
        | (go_at_call 42;refine(H1 _).mono ?_;rintro e u ⟨rfl,rfl⟩))
       rw [Exit.noGoto_ret]
       go_returns
       exact⟨fin _,Below.refl _ _⟩
     | cons b2 r2=>
       have hne:(b2::r2)≠ []:=by simp
       have he:=Z9k hne
       have hN:=Ze1 hne
       have e3:((47::b2::r2:List UInt8)== [47])=false:=by simp
       have hlen:(b2::r2).length≤5000:=by simp at hl ⊢;omega
       generalize (b2::r2:List UInt8)=r at *
       have he':Hid (spE (47::r)=jE (prt r)):=he
       have hN':Hid (jE (prt r)=0→spN (47::r)=prt r):=hN
       clear he hN hl h1 hne
       go_enter Tryz.func15,Tryz.ntmps15
       go_wp2
       refine wp_scope_jumps 0 (JmpS (47::r) w) (fun _ _=>0) rfl ?_ ?_
       rotate_left
       · intro a' u ⟨f1,f2,f3,f4⟩
         obtain⟨t,d⟩:=a'
         obtain⟨vv0,vv1,vv2,vv3,vv4,vv5,vv6,vv7,vv8,vv9,vv10,vv11,vv12,vv13,vv14,vv15,vv16,vv17,vv18,vv19,vv20,vv21,vv22,vv23,vv24,vv25,vv26,vv27,vv28,vv29,vv30,vv31,vv32,vv33,vv34,vv35,vv36,vv37,rfl⟩:=fr38 t f1
         obtain rfl:d= []:=f2
         have f5:Hid (spE (47::r)=45):=f3
         clear f3
         go_wp2
         rw [Z4s]
         go_returns
         exact⟨Z3f _ _ 45 f5.out (by decide),f4⟩
       go_wp2_with (first
        | (go_at_call 42;refine(H1 _).mono ?_;rintro e u ⟨rfl,rfl⟩))
       go_loopw [4,5,6] (fun rv mv nv wr=>∃ (D:List (List UInt8)) (R:List UInt8) (m:Bool),rv= .string (str R)∧mv= .bool m∧R.length≤5000∧(∀ x ∈ D,nm x=true)∧prt r=D++(if m=true then prt R else [])∧OwT w.heap.size wr nv (D.take 17)∧Below w.heap.size w wr) (fun rv mv _ _=>mzV rv mv)
       case atStart=>exact⟨[],r,true,rfl,rfl,hlen,fun x hx=>(by cases hx),by simp,OwT.none _,Below.refl _ _⟩
       case round=>
        obtain⟨D,R,m,rfl,rfl,hR,hall,hp,hO,hB⟩:=hrel
        have hP:Hid (prt r=D++(if m=true then prt R else [])):=hp
        have hA:Hid (∀ x ∈ D,nm x=true):=hall
        clear hp hall
        obtain⟨T,hTe⟩:∃ T,Hid (D.take 17=T):=⟨_,rfl⟩
        have hT:Hid (T.length=min 17 D.length):=by show _=_;rw [← hTe.out];simp
        rw [hTe.out]at hO
        obtain⟨av,cv,rfl,hS,_⟩:=hO.shape
        cases m with
        | false=>
          have hP2:Hid (prt r=D):=by show _=_;rw [hP.out];simp
          clear hP
          by_cases g:16 < D.length
          · have hj:spE (47::r)=3:=by rw [he'.out,hP2.out,Z56 hA.out,if_pos g]
            have g2:(16:Int) < (T.length:Int):=by have:=hT.out;omega
            go_wp2
            rw [Z4s]
            go_returns
            exact⟨Z3f _ _ 3 hj (by decide),hB⟩
          · have hj:jE (prt r)=0:=by rw [hP2.out,Z56 hA.out,if_neg g]
            have g2:¬(16:Int) < (T.length:Int):=by have:=hT.out;omega
            have e1:Hid (T=spN (47::r)):=by show _=_;rw [← hTe.out,hN'.out hj,hP2.out,List.take_of_length_le (by omega)]
            have e2:Hid (spE (47::r)=0):=by show _=_;rw [he'.out,hj]
            go_wp2
            rw [Z4s]
            go_returns
            exact⟨⟨av,T.length,cv,by rw [e2.out];rfl,by rw [← e1.out];exact hS⟩,hB⟩
        | true=>
          obtain⟨k1,k2,k3⟩:=Zdc R
          have HC:=fun w=>Z31 R w (by omega)
          have hP2:Hid (prt r=(D++ [ctA R])++(if ctF R=true then prt (ctB R)else [])):=by show _=_;rw [hP.out];simp [k1]
          have hm:Hid ((ctB R).length+(if ctF R=true then 1 else 0) < R.length+1):=k2
          have hlb:(ctB R).length≤5000:=by omega
          clear hP k1 k2 k3
          generalize ctA R=X at *
          generalize ctB R=R2 at *
          generalize ctF R=F at *
          have HX:=Z42 X
          by_cases hx:nm X=true
          · have hnx:nE X=0:=by unfold nE;rw [if_pos hx]
            rw [hnx]at HX
            have hA2:Hid (∀ x ∈ D++ [X],nm x=true):=fun x hh=>by
             rcases List.mem_append.1 hh with h | h
             · exact hA.out x h
             · rw [List.mem_singleton.1 h];exact hx
            clear hx hnx
            by_cases g:D.length≤16
            · have g2:(T.length:Int)≤16:=by have:=hT.out;omega
              have hk:Hid ((D++ [X]).take 17=T++ [X]):=by show _=_;rw [← hTe.out];exact(Zbf D X).1 g
              go_wp2_with (first
               | (go_at_call 43;refine(HC _).mono ?_;rintro e w1 ⟨rfl,b1⟩)
               | (go_at_call 44;refine(HX _).mono ?_;rintro e w2 ⟨rfl,b2⟩;have B2:=Z00q b1 b2 (Nat.le_refl _);have hO2:=hO.later B2;have hB2:=Z00q hB B2 (Nat.le_refl _))
               | (refine Z63 (by rfl) _ (by rfl) X (by rfl) ?_;intro g3 w3 a3 o3 b3;have hO3:=hO2.later b3;have hB3:=Z00q hB2 b3 (Nat.le_refl _))
               | (refine Z5c w.heap.size rfl _ _ (by rfl) (by rfl) hO3 _ 1 1 (by rfl) o3 (by have:=hT.out;omega) hB3.size ?_;intro v4 w4 o4 s4))
              go_roundw
              case rel=>exact⟨D++ [X],R2,F,rfl,rfl,hlb,hA2.out,hP2.out,by rw [hk.out];exact o4,((Stp.of_below hB3 (fun x=>w.heap.size≤x)).next s4 (fun _ h=> .inl h)).below (Nat.le_refl _) (fun _ h=>h)⟩
              case measure=>have:=hm.out;cases F<;>simp [mzV,Z1d]at this ⊢<;>omega
            · have g2:¬(T.length:Int)≤16:=by have:=hT.out;omega
              have hk:Hid ((D++ [X]).take 17=T):=by show _=_;rw [← hTe.out];exact(Zbf D X).2 (by omega)
              go_wp2_with (first
               | (go_at_call 43;refine(HC _).mono ?_;rintro e w1 ⟨rfl,b1⟩)
               | (go_at_call 44;refine(HX _).mono ?_;rintro e w2 ⟨rfl,b2⟩;have B2:=Z00q b1 b2 (Nat.le_refl _);have hO2:=hO.later B2;have hB2:=Z00q hB B2 (Nat.le_refl _)))
              go_roundw
              case rel=>exact⟨D++ [X],R2,F,rfl,rfl,hlb,hA2.out,hP2.out,by rw [hk.out];exact hO2,hB2⟩
              case measure=>have:=hm.out;cases F<;>simp [mzV,Z1d]at this ⊢<;>omega
          · have hxf:nm X=false:=by simpa using hx
            have hnx:nE X=45:=by unfold nE;rw [if_neg hx]
            rw [hnx]at HX
            have hj:Hid (spE (47::r)=45):=by show _=_;rw [he'.out];exact Z7x X (by rw [hP2.out];simp) hxf
            clear hx hnx hxf
            go_wp2_with (first
             | (go_at_call 43;refine(HC _).mono ?_;rintro e w1 ⟨rfl,b1⟩)
             | (go_at_call 44;refine(HX _).mono ?_;rintro e w2 ⟨rfl,b2⟩;have B2:=Z00q b1 b2 (Nat.le_refl _);have hB2:=Z00q hB B2 (Nat.le_refl _)))
            go_step3
            exact⟨rfl,rfl,rfl,hj.out,hB2⟩
 · have he:=Zfc h1
   rw [if_neg h1,decide_eq_false h1]at H1
   have e3:(l== [47])=false:=by
    have:l≠ [47]:=fun e=>h1 (by rw [e];rfl)
    simpa using this
   have he':Hid (spE l=45):=he
   clear he h1
   go_enter Tryz.func15,Tryz.ntmps15
   go_wp2
   refine wp_scope_jumps 0 (JmpS l w) (fun _ _=>0) rfl ?_ ?_
   · go_wp2_with (first
     | (go_at_call 42;refine(H1 _).mono ?_;rintro e u ⟨rfl,rfl⟩))
     go_step3
     exact⟨rfl,rfl,rfl,he'.out,Below.refl _ _⟩
   · intro a' u ⟨f1,f2,f3,f4⟩
     obtain⟨t,d⟩:=a'
     obtain⟨vv0,vv1,vv2,vv3,vv4,vv5,vv6,vv7,vv8,vv9,vv10,vv11,vv12,vv13,vv14,vv15,vv16,vv17,vv18,vv19,vv20,vv21,vv22,vv23,vv24,vv25,vv26,vv27,vv28,vv29,vv30,vv31,vv32,vv33,vv34,vv35,vv36,vv37,rfl⟩:=fr38 t f1
     obtain rfl:d= []:=f2
     have f5:Hid (spE l=45):=f3
     clear f3
     go_wp2
     rw [Z4s]
     go_returns
     exact⟨Z3f _ _ 45 f5.out (by decide),f4⟩
theorem Zdz {l:List UInt8} (h:l≠ [47]) {x:List UInt8} {L:List (List UInt8)} (hp:prt l=x::L):spE l=if x= []∧L≠ []then jE L else 45:=by
 unfold spE
 rw [if_neg h,hp]
 cases x with
 | nil=>
   cases L with
   | nil=>simp
   | cons y ys=>simp
 | cons b r=>simp
theorem Z9e:∀ l:List UInt8,(prt l).length≤l.length+1
 | []=>by simp [prt]
 | b::r=>by
   have:=Z9e r
   by_cases hb:b=47
   · subst hb;rw [Z2s];simp;omega
   · obtain⟨x,xs,e1,e2⟩:=Z4h hb r
     rw [e2];rw [e1]at this;simp at this ⊢;omega
theorem Ze0 {l:List UInt8} (h:l≠ [47]) {x:List UInt8} {L:List (List UInt8)} (hp:prt l=x::L) (he:spE l=0):spN l=L:=by
 unfold spN
 rw [if_pos ⟨he,h⟩,hp];rfl
set_option maxRecDepth 100000 in
set_option maxHeartbeats 4000000 in
theorem Z4x (l:List UInt8) (w:World) (hl:l.length≤5000):
 Calls Tryz.prog 49 #[.string (str l)] w fun e w'=>SpR w' l e∧Below w.heap.size w w':=by
 have ht:=Z15 l
 by_cases h1:l= [47]
 · subst h1
   have fin:∀ w',SpR w' [47] (.returned (.tuple #[.slice none 0 0, .int .i64 0])):=fun w'=>⟨none,0,0,by simp [spE],by rw [show spN [47]= [] by simp [spN]];exact Sts.nilSlice _⟩
   go_enter Tryz.func49,Tryz.ntmps49
   go_wp2
   go_returns
   exact⟨fin _,Below.refl _ _⟩
 · have e3:(l== [47])=false:=by simpa using h1
   have HB:=Z9q l w hl
   obtain ⟨x,L,hp⟩:∃ x L,prt l=x::L:=by
    cases e:prt l with
    | nil=>exact absurd e (Z68 l)
    | cons x L=>exact⟨x,L,rfl⟩
   have hpl:=Z9e l
   rw [hp]at hpl
   replace hpl:(x::L).length≤5001:=by omega
   have hE:=Zdz h1 hp
   have hN:=Ze0 h1 hp
   rw [hp]at HB
   have hE':Hid (spE l=if x= []∧L≠ []then jE L else 45):=hE
   have hN':Hid (spE l=0→spN l=L):=hN
   clear hE hN h1 hp
   cases L with
   | nil=>
     have h45:Hid (spE l=45):=by show _=_;rw [hE'.out];simp
     clear hE' hN'
     go_enter Tryz.func49,Tryz.ntmps49
     go_wp2_with (first
      | (go_at_call 88;refine HB.mono ?_;rintro e w1 ⟨v,rfl,o1,b1⟩;obtain⟨av,cv,rfl,hS,_⟩:=o1.shape))
     go_returns
     exact⟨Z3f _ _ 45 h45.out (by decide),b1⟩
   | cons y ys=>
     by_cases hx:x= []
     · subst hx
       have hE2:Hid (spE l=jE (y::ys)):=by show _=_;rw [hE'.out];simp
       clear hE'
       obtain⟨L,hL⟩:∃ L,Hid (y::ys=L):=⟨_,rfl⟩
       have hn:Hid (1≤L.length):=by show 1≤L.length;rw [← hL.out];simp
       rw [hL.out]at HB hE2 hN' hpl
       clear hL
       have hlen:([]::L:List (List UInt8)).length=L.length+1:=rfl
       have hlen2:=hpl
       rw [hlen]at hlen2
       replace hlen2:L.length≤5001:=by omega
       obtain⟨N,hNN⟩:∃ N,Hid (N=L.length+1):=⟨_,rfl⟩
       have HB2:Calls Tryz.prog 88 #[.string (str l), .int .u8 47] w fun e w'=>∃ bb oo cv,e= .returned (.slice (some ⟨bb,oo,none⟩) (N) cv)∧Sts w' (some ⟨bb,oo,none⟩) (N) cv ([]::L)∧(∀ i,i < N→w'.cell? ⟨bb,oo+i,none⟩=some (.string (str (([]::L).getD i []))))∧Below w.heap.size w w':=by
        refine HB.mono ?_
        rintro e w1 ⟨v,rfl,o1,b1⟩
        obtain⟨av,cv,rfl,hS,_⟩:=o1.shape
        rw [hlen]at hS
        rw [← hNN.out]at hS
        obtain⟨bb,oo,rfl,hc⟩:=hS.cell (by have:=hNN.out;omega)
        exact⟨bb,oo,cv,by rw [hlen,← hNN.out],hS,hc,b1⟩
       have hxe:(str ([]:List UInt8)).toList= []:=Z15 []
       have a1:¬(N:Int) < 2:=by have:=hn.out;have:=hNN.out;omega
       have a2:(0:Int) < (N:Int):=by have:=hNN.out;omega
       have hlL:Hid (L.length≤5001):=hlen2
       clear HB hlen hlen2
       go_enter Tryz.func49,Tryz.ntmps49
       go_wp2_with (first
        | (go_at_call 88;refine HB2.mono ?_;rintro e w1 ⟨bb,oo,cv,rfl,hS,hc,b1⟩;have c0:w1.cell? ⟨bb,oo,none⟩=some (.string (str [])):=hc 0 (by have:=hNN.out;omega);have hC:Hid (∀ i,i < N→w1.cell? ⟨bb,oo+i,none⟩=some (.string (str (([]::L).getD i [])))):=hc;clear hc))
       go_loopw [5] (fun iv wr=>∃ k:Nat,iv= .int .i64 ((k+1:Nat):Int)∧k≤L.length∧wr=w1∧∀ j,j < k→nm (L.getD j [])=true) (fun iv _=>N - (intOf iv).toNat)
       case atStart=>exact⟨0,rfl,Nat.zero_le _,rfl,fun j hj=>absurd hj (by omega)⟩
       case round=>
        obtain⟨k,rfl,hk,rfl,hall⟩:=hrel
        have hA:Hid (∀ j,j < k→nm (L.getD j [])=true):=hall
        clear hall
        by_cases hlt:k < L.length
        · have ck:=hC.out (k+1) (by have:=hNN.out;omega)
          rw [show([]::L).getD (k+1) []=L.getD k []from rfl]at ck
          have H1:=Z9w (L.getD k [])
          have hb0:Hid (nm (L.getD k [])=false→spE l=45):=fun h=>by
           rw [hE2.out]
           refine Z7x (L.getD k []) ?_ h
           rw [List.getD_eq_getElem?_getD,List.getElem?_eq_getElem hlt];exact List.getElem_mem hlt
          have hb1:Hid (nm (L.getD k [])=true→∀ j,j < k+1→nm (L.getD j [])=true):=fun h j hj=>by
           by_cases e:j < k
           · exact hA.out j e
           · obtain rfl:j=k:=by omega
             exact h
          generalize L.getD k []=X at *
          have hk9:k≤5001:=by have:=hlL.out;omega
          have a3:(k:Int)+1 < (N:Int):=by have:=hNN.out;omega
          have a4:(0:Int)≤(k:Int)+1:=by omega
          have a5:((k:Int)+1).toNat=k+1:=by omega
          by_cases hx:nm X=true
          · have hnx:nE X=0:=by unfold nE;rw [if_pos hx]
            rw [hnx]at H1
            have hA2:Hid (∀ j,j < k+1→nm (L.getD j [])=true):=hb1.out hx
            clear hx hnx hb0 hb1
            go_wp2_with (first
             | (go_at_call 89;refine(H1 _).mono ?_;rintro e u ⟨rfl,rfl⟩))
            go_roundw
            case rel=>exact⟨k+1,by go_num,by omega,trivial,hA2.out⟩
            case measure=>have:=hNN.out;simp [intOf];omega
          · have hnx:nE X=45:=by unfold nE;rw [if_neg hx]
            rw [hnx]at H1
            have h45:Hid (spE l=45):=hb0.out (by simpa using hx)
            clear hx hnx hb0 hb1
            go_wp2_with (first
             | (go_at_call 89;refine(H1 _).mono ?_;rintro e u ⟨rfl,rfl⟩))
            go_returns
            exact⟨Z3f _ _ 45 h45.out (by decide),b1⟩
        · obtain rfl:k=L.length:=by omega
          have hj:jE L=if 16 < L.length then 3 else 0:=Z56 (fun x hx=>by
           obtain⟨j,hj,rfl⟩:=List.getElem_of_mem hx
           have:=hA.out j hj
           rwa [List.getD_eq_getElem?_getD,List.getElem?_eq_getElem hj]at this)
          by_cases g:16 < L.length
          · have h3:Hid (spE l=3):=by show _=_;rw [hE2.out,hj,if_pos g]
            have a3:(17:Int) < (N:Int):=by have:=hNN.out;omega
            have a4:¬(L.length:Int)+1 < (N:Int):=by have:=hNN.out;omega
            clear hj
            go_wp2
            go_returns
            exact⟨Z3f _ _ 3 h3.out (by decide),b1⟩
          · have h0:Hid (spE l=0):=by show _=_;rw [hE2.out,hj,if_neg g]
            have hL:Hid (spN l=L):=hN'.out h0.out
            have a3:¬(17:Int) < (N:Int):=by have:=hNN.out;omega
            have a9:¬(L.length:Int)+1 < (N:Int):=by have:=hNN.out;omega
            have a4:(1:Int)≤(N:Int):=by have:=hNN.out;omega
            have hcv:=hS.le
            have hcm:=hS.cap
            have a5:(1:Int)≤(cv:Int):=by have:=hNN.out;omega
            have a6:¬cv=1:=by have:=hn.out;have:=hNN.out;omega
            clear hj
            go_wp2
            go_returns
            refine⟨⟨some ⟨bb,oo+1,none⟩,N - 1,cv - 1,by rw [h0.out];rfl,?_⟩,b1⟩
            rw [hL.out]
            have hNo:=hNN.out
            refine⟨by omega,by omega,by omega,(fun e=>by cases e),fun _=>⟨bb,oo+1,rfl,fun i hi=>?_⟩⟩
            have:=hC.out (i+1) (by omega)
            rw [show([]::L).getD (i+1) []=L.getD i []from rfl]at this
            rw [Nat.add_assoc,Nat.add_comm 1 i];exact this
     · have h45:Hid (spE l=45):=by show _=_;rw [hE'.out];simp [hx]
       clear hE' hN'
       have hx2:(x== [])=false:=by simpa using hx
       have hx1:(str x).toList=x:=Z15 x
       have hx3:x.isEmpty=false:=by simpa using hx
       go_enter Tryz.func49,Tryz.ntmps49
       go_wp2_with (first
        | (go_at_call 88;refine HB.mono ?_;rintro e w1 ⟨v,rfl,o1,b1⟩;obtain⟨av,cv,rfl,hS,_⟩:=o1.shape
           obtain⟨bb,oo,rfl,hc⟩:=hS.cell (by simp)
           have c0:w1.cell? ⟨bb,oo,none⟩=some (.string (str x)):=hc 0 (by simp)))
       go_returns
       exact⟨Z3f _ _ 45 h45.out (by decide),b1⟩
def LaR (w':World) (l:List UInt8) (e:Ending):Prop:=∃ a n c,e= .returned (.tuple #[.slice a n c, .string (str (lsS l)), .int .i64 (lsE l)])∧Sts w' a n c (lsN l)
theorem Z5i (w':World) (l:List UInt8) (k:Int) (hk:lsE l=k) (h:spN l= []):LaR w' l (.returned (.tuple #[.slice none 0 0, .string ⟨#[]⟩, .int .i64 k])):=by
 have e1:lsN l= []:=by unfold lsN;rw [h];rfl
 have e2:lsS l= []:=by unfold lsS;rw [h];rfl
 exact⟨none,0,0,by rw [hk,e2];rfl,by rw [e1];exact Sts.nilSlice _⟩
theorem Zan {w':World} {l:List UInt8} {a:Option Addr} {n c:Nat} (hS:Sts w' a (n+1) c (spN l)) (he:spE l=0) (x:List UInt8) (hx:x=(spN l).getD n []):LaR w' l (.returned (.tuple #[.slice a n c, .string (str x), .int .i64 0])):=by
 have hl:=hS.len
 have hne:spN l≠ []:=fun e=>by rw [e]at hl;simp at hl
 have e0:lsE l=0:=by unfold lsE;rw [if_pos he,if_neg hne]
 have e1:lsN l=(spN l).take n:=by unfold lsN;rw [List.dropLast_eq_take,hl];rfl
 have e2:lsS l=x:=by
  unfold lsS
  rw [hx,List.getLastD_eq_getLast?,List.getLast?_eq_getElem?,hl,List.getD_eq_getElem?_getD];rfl
 exact⟨a,n,c,by rw [e0,e2],by rw [e1];exact hS.take n (by omega)⟩
set_option maxRecDepth 100000 in
set_option maxHeartbeats 2000000 in
theorem Z45 (l:List UInt8) (w:World) (hl:l.length≤5000):
 Calls Tryz.prog 22 #[.string (str l)] w fun e w'=>LaR w' l e∧Below w.heap.size w w':=by
 have H:=Z1u l w hl
 have hN0:Hid (spE l≠0→spN l= []):=fun h=>Z6d h
 have hle:Hid ((spN l).length≤16):=Z3e l
 by_cases h0:spE l=0
 · by_cases hn:spN l= []
   · have h2:Hid (lsE l=2):=by show _=_;unfold lsE;rw [if_pos h0,if_pos hn]
     have hn':Hid (spN l= []):=hn
     have H2:Calls Tryz.prog 15 #[.string (str l)] w fun e w'=>∃ a c,e= .returned (.tuple #[.slice a 0 c, .int .i64 0])∧Below w.heap.size w w':=by
      refine H.mono ?_
      rintro e w1 ⟨⟨a,n,c,rfl,hS⟩,b⟩
      have:=hS.len
      rw [hn]at this
      obtain rfl:0=n:=this
      exact⟨a,c,by rw [h0],b⟩
     clear H h0 hn
     go_enter Tryz.func22,Tryz.ntmps22
     go_wp2_with (first
      | (go_at_call 15;refine H2.mono ?_;rintro e w1 ⟨a,c,rfl,b1⟩))
     go_returns
     exact⟨Z5i _ _ 2 h2.out hn'.out,b1⟩
   · obtain⟨n,hnl⟩:∃ n,(spN l).length=n+1:=⟨(spN l).length - 1,by have:=List.length_pos_iff.2 hn;omega⟩
     have H2:Calls Tryz.prog 15 #[.string (str l)] w fun e w'=>∃ bb oo c,e= .returned (.tuple #[.slice (some ⟨bb,oo,none⟩) (n+1) c, .int .i64 0])∧Sts w' (some ⟨bb,oo,none⟩) (n+1) c (spN l)∧w'.cell? ⟨bb,oo+n,none⟩=some (.string (str ((spN l).getD n [])))∧Below w.heap.size w w':=by
      refine H.mono ?_
      rintro e w1 ⟨⟨a,m,c,rfl,hS⟩,b⟩
      have:=hS.len
      obtain rfl:n+1=m:=by omega
      obtain⟨bb,oo,rfl,hc⟩:=hS.cell (by omega)
      exact⟨bb,oo,c,by rw [h0],hS,hc n (by omega),b⟩
     have hn16:n≤16:=by have:=hle.out;omega
     obtain⟨X,hX⟩:∃ X,Hid (X=(spN l).getD n []):=⟨_,rfl⟩
     rw [← hX.out]at H2
     have h0':Hid (spE l=0):=h0
     clear H h0 hn hnl
     have a1:¬(n:Int)+1=0:=by omega
     have a2:(0:Int)≤(n:Int):=by omega
     have a3:(n:Int)≤(n:Int)+1:=by omega
     have a4:(n:Int) < (n:Int)+1:=by omega
     have a5:IntKind.i64.wrap ((n:Int)+1 - 1)=(n:Int):=by rw [IntKind.wrap_i64];omega
     go_enter Tryz.func22,Tryz.ntmps22
     go_wp2_with (first
      | (go_at_call 15;refine H2.mono ?_;rintro e w1 ⟨bb,oo,c,rfl,hS,hc,b1⟩
         have hcc:=hS.le
         have hcn:(n:Int)≤(c:Int):=by omega))
     go_region
     go_wp2
     go_returns
     exact⟨Zan (hS.later (Below.refl _ _).drew) h0'.out X hX.out,b1.drew⟩
 · have h2:Hid (lsE l=spE l):=by show _=_;unfold lsE;rw [if_neg h0]
   have hn':Hid (spN l= []):=hN0.out h0
   have H2:Calls Tryz.prog 15 #[.string (str l)] w fun e w'=>∃ a n c,e= .returned (.tuple #[.slice a n c, .int .i64 (spE l)])∧Below w.heap.size w w':=by
    refine H.mono ?_
    rintro e w1 ⟨⟨a,n,c,rfl,hS⟩,b⟩
    exact⟨a,n,c,rfl,b⟩
   clear H
   generalize spE l=E at *
   go_enter Tryz.func22,Tryz.ntmps22
   go_wp2_with (first
    | (go_at_call 15;refine H2.mono ?_;rintro e w1 ⟨a,n,c,rfl,b1⟩))
   go_returns
   exact⟨Z5i _ _ _ h2.out hn'.out,b1⟩
set_option maxRecDepth 100000 in
set_option maxHeartbeats 2000000 in
theorem Zb0 (l:List UInt8) (w:World) (hl:l.length≤5000):
 Calls Tryz.prog 109 #[.string (str l)] w fun e w'=>LaR w' l e∧Below w.heap.size w w':=by
 have H:=Z4x l w hl
 have hN0:Hid (spE l≠0→spN l= []):=fun h=>Z6d h
 have hle:Hid ((spN l).length≤16):=Z3e l
 by_cases h0:spE l=0
 · by_cases hn:spN l= []
   · have h2:Hid (lsE l=2):=by show _=_;unfold lsE;rw [if_pos h0,if_pos hn]
     have hn':Hid (spN l= []):=hn
     have H2:Calls Tryz.prog 49 #[.string (str l)] w fun e w'=>∃ a c,e= .returned (.tuple #[.slice a 0 c, .int .i64 0])∧Below w.heap.size w w':=by
      refine H.mono ?_
      rintro e w1 ⟨⟨a,n,c,rfl,hS⟩,b⟩
      have:=hS.len
      rw [hn]at this
      obtain rfl:0=n:=this
      exact⟨a,c,by rw [h0],b⟩
     clear H h0 hn
     go_enter Tryz.func109,Tryz.ntmps109
     go_wp2_with (first
      | (go_at_call 49;refine H2.mono ?_;rintro e w1 ⟨a,c,rfl,b1⟩))
     go_returns
     exact⟨Z5i _ _ 2 h2.out hn'.out,b1⟩
   · obtain⟨n,hnl⟩:∃ n,(spN l).length=n+1:=⟨(spN l).length - 1,by have:=List.length_pos_iff.2 hn;omega⟩
     have H2:Calls Tryz.prog 49 #[.string (str l)] w fun e w'=>∃ bb oo c,e= .returned (.tuple #[.slice (some ⟨bb,oo,none⟩) (n+1) c, .int .i64 0])∧Sts w' (some ⟨bb,oo,none⟩) (n+1) c (spN l)∧w'.cell? ⟨bb,oo+n,none⟩=some (.string (str ((spN l).getD n [])))∧Below w.heap.size w w':=by
      refine H.mono ?_
      rintro e w1 ⟨⟨a,m,c,rfl,hS⟩,b⟩
      have:=hS.len
      obtain rfl:n+1=m:=by omega
      obtain⟨bb,oo,rfl,hc⟩:=hS.cell (by omega)
      exact⟨bb,oo,c,by rw [h0],hS,hc n (by omega),b⟩
     have hn16:n≤16:=by have:=hle.out;omega
     obtain⟨X,hX⟩:∃ X,Hid (X=(spN l).getD n []):=⟨_,rfl⟩
     rw [← hX.out]at H2
     have h0':Hid (spE l=0):=h0
     clear H h0 hn hnl
     have a1:¬(n:Int)+1=0:=by omega
     have a2:(0:Int)≤(n:Int):=by omega
     have a3:(n:Int)≤(n:Int)+1:=by omega
     have a4:(n:Int) < (n:Int)+1:=by omega
     have a5:IntKind.i64.wrap ((n:Int)+1 - 1)=(n:Int):=by rw [IntKind.wrap_i64];omega
     go_enter Tryz.func109,Tryz.ntmps109
     go_wp2_with (first
      | (go_at_call 49;refine H2.mono ?_;rintro e w1 ⟨bb,oo,c,rfl,hS,hc,b1⟩
         have hcc:=hS.le
         have hcn:(n:Int)≤(c:Int):=by omega))
     go_region
     go_wp2
     go_returns
     exact⟨Zan (hS.later (Below.refl _ _).drew) h0'.out X hX.out,b1.drew⟩
 · have h2:Hid (lsE l=spE l):=by show _=_;unfold lsE;rw [if_neg h0]
   have hn':Hid (spN l= []):=hN0.out h0
   have H2:Calls Tryz.prog 49 #[.string (str l)] w fun e w'=>∃ a n c,e= .returned (.tuple #[.slice a n c, .int .i64 (spE l)])∧Below w.heap.size w w':=by
    refine H.mono ?_
    rintro e w1 ⟨⟨a,n,c,rfl,hS⟩,b⟩
    exact⟨a,n,c,rfl,b⟩
   clear H
   generalize spE l=E at *
   go_enter Tryz.func109,Tryz.ntmps109
   go_wp2_with (first
    | (go_at_call 49;refine H2.mono ?_;rintro e w1 ⟨a,n,c,rfl,b1⟩))
   go_returns
   exact⟨Z5i _ _ _ h2.out hn'.out,b1⟩
end Go.Proofs.YtdnjddpfcgginaaGreat
