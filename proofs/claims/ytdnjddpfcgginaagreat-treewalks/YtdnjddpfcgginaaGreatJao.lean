/-
  Texts of my own, joined: no statement is proved here.
-/
import Derived.Laws.Concat
import Derived.Test.YtdnjddpfcgginaaGreatJam
import Derived.Test.YtdnjddpfcgginaaGreatJan
set_option linter.unusedSimpArgs false
set_option linter.unusedVariables false
namespace Go.Proofs.YtdnjddpfcgginaaGreat
open Go.ChangeShapes Go.WideShapes Go.ChangeAt Go.RowKit
theorem exJ:Builder.Extra Tryz.prog YtdnjddpfcgginaaGreat.lays156_ren:= {
 sizeBuilder:=by kernel_rfl
 liesBuilder:=by kernel_rfl
 t5:=Tryz.underlying5
 a5:=Tryz.isAgg5
 z5:=Tryz.sizeOf5
 v5:=Tryz.zeroValue5
 infoByte:=by kernel_rfl
 cellsByte:=by kernel_rfl
 sizeByte:=by kernel_rfl
 neB5:=by decide}
theorem Z7y (L:List (List UInt8)):47::Lib.join L [47]=if L= []then [47]else sls L:=by
 cases L with
 | nil=>rfl
 | cons x r=>
   rw [if_neg (by simp),Lib.join_cons,Z3z]
   rfl
theorem Z81 (L:List (List UInt8)):(L.map str).map (fun s:ByteArray=>s.data.toList)=L:=by
 rw [List.map_map]
 have:((fun s:ByteArray=>s.data.toList)∘str)=id:=by funext x;exact Z40 x
 rw [this,List.map_id]
theorem Zbz (w:World) (a:Option Addr) (n c:Nat) (L:List (List UInt8)) (hS:Sts w a n c L) (hn:L.length≤16) (hall:∀ x ∈ L,nm x=true):
 Calls Tryz.prog 51 #[.slice a n c, .string ⟨#[47]⟩] w fun e w'=>e= .returned (.string (str (Lib.join L [47])))∧Below w.heap.size w w':=by
 have hl:=hS.len
 cases L with
 | nil=>
   obtain rfl:0=n:=hl
   refine(Any.strings_Join_none YtdnjddpfcgginaaGreat.lays156 exJ a c ⟨#[47]⟩ w).mono ?_
   rintro e w' ⟨rfl,rfl⟩
   exact⟨rfl,Below.refl _ _⟩
 | cons x r=>
   have h0:0 < n:=by rw [← hl];simp
   obtain⟨b,o,rfl,hc⟩:=hS.cell h0
   have hlen:(Lib.join (x::r) [47]).length≤400:=by
    have h1:=Z7y (x::r)
    rw [if_neg (by simp)]at h1
    have h2:=Z6s (x::r) hall
    have h3:=congrArg List.length h1
    simp only [List.length_cons]at h2 h3 hn
    omega
   have H:=Any.strings_Join YtdnjddpfcgginaaGreat.lays156 exJ b o c ((x::r).map str) ⟨#[47]⟩ w (fun j y hy=>by
    have hj:=(List.getElem?_eq_some_iff.1 hy).1
    rw [List.length_map]at hj
    rw [List.getElem?_map,List.getElem?_eq_getElem hj]at hy
    injection hy with hy
    rw [hc j (by omega),List.getD_eq_getElem?_getD,List.getElem?_eq_getElem hj,← hy];rfl) (World.block_lt_of_cell? w _ (hc 0 h0)) (by simp only [List.length_map];simp at hn ⊢;omega) (by have:=hS.le;rw [List.length_map];omega) (by rw [Z81];show(Lib.join (x::r) [47]).length≤_;omega)
   rw [Z81,List.length_map,hl]at H
   exact H
set_option maxRecDepth 100000 in
set_option maxHeartbeats 2000000 in
theorem Zam {w:World} {a:Option Addr} {n c:Nat} {L:List (List UInt8)} (hS:Sts w a n c L) (hL:L.length≤1000):
 Calls Tryz.prog 23 #[.slice a n c] w fun e w'=>e= .returned (.tuple #[.string (str (jS L)), .int .i64 (jE L)])∧Below w.heap.size w w':=by
 have hl:=hS.len
 have hcell:=hS.cell
 subst hl
 have hbad:Hid (∀ k,k < L.length→nm (L.getD k [])=false→jE L=45∧jS L= []):=fun k hk h=>by
  have e:jE L=45:=Z7x (L.getD k []) (by rw [List.getD_eq_getElem?_getD,List.getElem?_eq_getElem hk];exact List.getElem_mem hk) h
  exact⟨e,by unfold jS;rw [e];rfl⟩
 obtain⟨E,hE⟩:∃ E,Hid (jE L=E):=⟨_,rfl⟩
 obtain⟨S,hSS⟩:∃ S,Hid (jS L=S):=⟨_,rfl⟩
 rw [hE.out,hSS.out]
 have hbad2:Hid (∀ k,k < L.length→nm (L.getD k [])=false→E=45∧S= []):=fun k hk h=>by rw [← hE.out,← hSS.out];exact hbad.out k hk h
 clear hbad
 have hC:Hid (0 < L.length→∃ b o,a=some ⟨b,o,none⟩∧∀ i,i < L.length→w.cell? ⟨b,o+i,none⟩=some (.string (str (L.getD i [])))):=hcell
 have hJ:=fun w' (hb:Below w.heap.size w w') h1 h2=>Zbz w' a L.length c L (hS.later hb) h1 h2
 have hJ':Hid (∀ w',Below w.heap.size w w'→L.length≤16→(∀ x ∈ L,nm x=true)→Calls Tryz.prog 51 #[.slice a L.length c, .string ⟨#[47]⟩] w' fun e w''=>e= .returned (.string (str (Lib.join L [47])))∧Below w'.heap.size w' w''):=hJ
 clear hcell hJ hS
 go_enter Tryz.func23,Tryz.ntmps23
 go_wp2
 go_loopw [9] (fun iv wr=>∃ k:Nat,iv= .int .i64 (k:Int)∧k≤L.length∧Below w.heap.size w wr∧∀ j,j < k→nm (L.getD j [])=true) (fun iv _=>L.length - (intOf iv).toNat)
 case atStart=>exact⟨0,rfl,Nat.zero_le _,Below.refl _ _,fun j hj=>absurd hj (by omega)⟩
 case round=>
  obtain⟨k,rfl,hk,hB,hall⟩:=hrel
  have hA:Hid (∀ j,j < k→nm (L.getD j [])=true):=hall
  clear hall
  by_cases hlt:k < L.length
  · obtain⟨b,o,rfl,hc⟩:=hC.out (by omega)
    have ck:wr.cell? ⟨b,o+k,none⟩=some (.string (str (L.getD k []))):=(Stp.of_below hB (fun _=>False)).cell (hc k hlt) id
    have H1:=Z42 (L.getD k [])
    have hb0:Hid (nm (L.getD k [])=false→E=45∧S= []):=fun h=>hbad2.out k hlt h
    have hb1:Hid (nm (L.getD k [])=true→∀ j,j < k+1→nm (L.getD j [])=true):=fun h j hj=>by
     by_cases e:j < k
     · exact hA.out j e
     · obtain rfl:j=k:=by omega
       exact h
    clear hc
    generalize L.getD k []=X at *
    have a3:(k:Int) < (L.length:Int):=by omega
    have a4:(0:Int)≤(k:Int):=by omega
    by_cases hx:nm X=true
    · have hnx:nE X=0:=by unfold nE;rw [if_pos hx]
      rw [hnx]at H1
      have hA2:Hid (∀ j,j < k+1→nm (L.getD j [])=true):=hb1.out hx
      clear hx hnx hb0 hb1
      go_wp2_with (first
       | (go_at_call 44;refine(H1 _).mono ?_;rintro e u ⟨rfl,b1⟩))
      go_roundw
      case rel=>exact⟨k+1,by go_num,by omega,Z00q hB b1 (Nat.le_refl _),hA2.out⟩
      case measure=>simp [intOf];omega
    · have hnx:nE X=45:=by unfold nE;rw [if_neg hx]
      rw [hnx]at H1
      obtain⟨q1,q2⟩:=hb0.out (by simpa using hx)
      have q1':Hid (E=45):=q1
      have q2':Hid (S= []):=q2
      clear hx hnx hb0 hb1 q1 q2
      go_wp2_with (first
       | (go_at_call 44;refine(H1 _).mono ?_;rintro e u ⟨rfl,b1⟩))
      go_returns
      exact⟨by rw [q1'.out,q2'.out];rfl,Z00q hB b1 (Nat.le_refl _)⟩
  · obtain rfl:k=L.length:=by omega
    have hok:Hid (∀ x ∈ L,nm x=true):=fun x hx=>by
     obtain⟨j,hj,rfl⟩:=List.getElem_of_mem hx
     have:=hA.out j hj
     rwa [List.getD_eq_getElem?_getD,List.getElem?_eq_getElem hj]at this
    have hj:jE L=if 16 < L.length then 3 else 0:=Z56 hok.out
    by_cases g:16 < L.length
    · have h3:Hid (E=3):=by show _=_;rw [← hE.out,hj,if_pos g]
      have hs:Hid (S= []):=by show _=_;rw [← hSS.out];unfold jS;rw [hj,if_pos g];rfl
      have a3:(16:Int) < (L.length:Int):=by omega
      clear hj
      go_wp2
      go_returns
      exact⟨by rw [h3.out,hs.out];rfl,hB⟩
    · have h0:Hid (E=0):=by show _=_;rw [← hE.out,hj,if_neg g]
      have hs:Hid (S=47::Lib.join L [47]):=by show _=_;rw [← hSS.out,Z7y];unfold jS;rw [hj,if_neg g];rfl
      have a3:¬(16:Int) < (L.length:Int):=by omega
      have HJ:=hJ'.out wr hB (by omega) hok.out
      have hYl:(Lib.join L [47]).length≤400:=by
       have h1:=Zal L
       rw [hSS.out,hs.out]at h1
       simp only [List.length_cons]at h1;omega
      clear hj
      generalize Lib.join L [47]=Y at *
      have hq:¬9223372036854775807 < 1+(str Y).size:=by rw [Z1d];omega
      have hcat:(⟨#[47]⟩:ByteArray)++str Y=str (47::Y):=by
       apply ByteArray.ext
       unfold str;simp
      go_wp2_with (first
       | (go_at_call 51;refine HJ.mono ?_;rintro e u ⟨rfl,b1⟩))
      go_returns
      exact⟨by rw [h0.out,hs.out];rfl,Z00q hB b1 (Nat.le_refl _)⟩
theorem Ze2 {x y:List UInt8} (h:str x=str y):x=y:=by
 have:=congrArg (fun s:ByteArray=>s.data.toList) h
 simpa [Z40]using this
theorem Z9a:∀ {L M:List (List UInt8)},L.map str=M.map str→L=M
 | [], [],_=>rfl
 | x::L,y::M,h=>by
   simp only [List.map_cons,List.cons.injEq]at h
   rw [Ze2 h.1,Z9a h.2]
theorem Z7u (L:List (List UInt8)) (j:Nat) (hj:j < L.length):(L.map str).getD j ByteArray.empty=str (L.getD j []):=by
 rw [List.getD_eq_getElem?_getD,List.getElem?_map,List.getElem?_eq_getElem hj,List.getD_eq_getElem?_getD,List.getElem?_eq_getElem hj];rfl
theorem Zdf {w:World} {a1 a2:Option Addr} {n1 n2 c1 c2:Nat} {L M:List (List UInt8)} (h1:Sts w a1 n1 c1 L) (h2:Sts w a2 n2 c2 M) (hl:L.length≤100000) (hm:M.length≤100000):
 Calls Tryz.prog 160 #[.slice a1 n1 c1, .slice a2 n2 c2] w fun e w'=>e= .returned (.bool (decide (L=M)))∧Below w.heap.size w w':=by
 have e1:=h1.len
 have e2:=h2.len
 by_cases h0:n1=0
 · subst h0
   obtain rfl:L= []:=List.eq_nil_of_length_eq_zero e1
   refine(Any.slices_Equal_string_empty YtdnjddpfcgginaaGreat.lays193 a1 a2 c1 n2 c2 w (by omega)).mono ?_
   rintro e w' ⟨rfl,rfl⟩
   refine⟨?_,Below.refl _ _⟩
   refine Z5y (decide_eq_decide.2 ⟨fun h=>?_,fun h=>?_⟩)
   · exact(List.eq_nil_of_length_eq_zero (by omega)).symm
   · rw [← h]at e2;simpa using e2.symm
 by_cases hne:n1=n2
 · subst hne
   obtain⟨b1,o1,rfl,g1⟩:=h1.cell (by omega)
   obtain⟨b2,o2,rfl,g2⟩:=h2.cell (by omega)
   refine(Any.slices_Equal_string YtdnjddpfcgginaaGreat.lays193 b1 o1 n1 c1 b2 o2 n1 c2 (L.map str) (M.map str) w (by simp;omega) (by simp;omega) (by omega) (by omega) (fun j hj=>?_) (fun j hj=>?_)).mono ?_
   · rw [List.length_map]at hj
     rw [g1 j (by omega),Z7u L j hj]
   · rw [List.length_map]at hj
     rw [g2 j (by omega),Z7u M j hj]
   · rintro e w' ⟨rfl,q,rfl⟩
     refine⟨Z5y (decide_eq_decide.2 ⟨fun h=>?_,fun h=>?_⟩),Z8l w q⟩
     · rw [List.take_of_length_le (by simp;omega),List.take_of_length_le (by simp;omega)]at h
       exact Z9a h
     · rw [h]
 · refine(Any.slices_Equal_string_lens YtdnjddpfcgginaaGreat.lays193 a1 a2 n1 c1 n2 c2 w hne).mono ?_
   rintro e w' ⟨rfl,rfl⟩
   refine⟨Z5y (decide_eq_false (fun h=>hne ?_)).symm,Below.refl _ _⟩
   rw [← e1,← e2,h]
set_option maxRecDepth 100000 in
set_option maxHeartbeats 2000000 in
theorem Z4r {w:World} {a1 a2:Option Addr} {n1 n2 c1 c2:Nat} {L M:List (List UInt8)} (h1:Sts w a1 n1 c1 L) (h2:Sts w a2 n2 c2 M) (hl:L.length≤10000) (hm:M.length≤10000):
 Calls Tryz.prog 147 #[.slice a1 n1 c1, .slice a2 n2 c2] w fun e w'=>e= .returned (.bool (insB L M))∧Below w.heap.size w w':=by
 have e1:=h1.len
 have e2:=h2.len
 by_cases g:n1 < n2
 · have HE:=Zdf h1 (h2.take n1 (by omega)) (by omega) (by simp;omega)
   have hB:insB L M=decide (L=M.take n1):=by
    unfold insB
    refine decide_eq_decide.2 ⟨fun h=>?_,fun h=>?_⟩
    · have h':=h.2;rw [e1]at h';exact h'.symm
    · exact⟨by omega,by rw [e1];exact h.symm⟩
   rw [hB]
   generalize decide (L=M.take n1)=B at *
   have c1:=h2.le
   have g1:(n1:Int) < (n2:Int):=by omega
   have g2:(0:Int)≤(n1:Int):=by omega
   have g3:(n1:Int)≤(n2:Int):=by omega
   have g4:(n1:Int)≤(c2:Int):=by omega
   clear hB e1 e2 h1 h2
   cases B<;>(
    go_enter Tryz.func147,Tryz.ntmps147
    go_wp2_with (first
     | (go_at_call 160;refine HE.mono ?_;rintro e w1 ⟨rfl,b1⟩))
    go_returns
    exact⟨rfl,b1⟩)
 · have hB:insB L M=false:=decide_eq_false (fun h=>by have:=h.1;omega)
   rw [hB]
   have g1:¬(n1:Int) < (n2:Int):=by omega
   clear hB
   go_enter Tryz.func147,Tryz.ntmps147
   go_wp2
   go_returns
   exact⟨rfl,Below.refl _ _⟩
set_option maxRecDepth 100000 in
set_option maxHeartbeats 2000000 in
theorem Z8v {w:World} {a1 a2:Option Addr} {n1 n2 c1 c2:Nat} {L M:List (List UInt8)} (h1:Sts w a1 n1 c1 L) (h2:Sts w a2 n2 c2 M) (hl:L.length≤10000) (hm:M.length≤10000):
 Calls Tryz.prog 77 #[.slice a1 n1 c1, .slice a2 n2 c2] w fun e w'=>e= .returned (.bool (insB L M))∧Below w.heap.size w w':=by
 have e1:=h1.len
 have e2:=h2.len
 obtain⟨B,hB⟩:∃ B,Hid (insB L M=B):=⟨_,rfl⟩
 rw [hB.out]
 by_cases g:n1 < n2
 · have ca:Hid (0 < n1→∃ b o,a1=some ⟨b,o,none⟩∧∀ i,i < n1→w.cell? ⟨b,o+i,none⟩=some (.string (str (L.getD i [])))):=h1.cell
   have cb:Hid (0 < n2→∃ b o,a2=some ⟨b,o,none⟩∧∀ i,i < n2→w.cell? ⟨b,o+i,none⟩=some (.string (str (M.getD i [])))):=h2.cell
   have hne:Hid (∀ k,k < n1→L.getD k []≠M.getD k []→B=false):=fun k hk hn=>by
    rw [← hB.out]
    refine decide_eq_false (fun h=>hn ?_)
    have h':=h.2
    rw [← h',List.getD_eq_getElem?_getD,List.getElem?_take,if_pos (by omega),List.getD_eq_getElem?_getD]
   have hall:Hid ((∀ k,k < n1→L.getD k []=M.getD k [])→B=true):=fun h=>by
    rw [← hB.out]
    refine decide_eq_true ⟨by omega,?_⟩
    refine List.ext_getElem? (fun k=>?_)
    by_cases hk:k < n1
    · have:=h k hk
      rw [List.getElem?_take,if_pos (by omega)]
      rw [List.getD_eq_getElem?_getD,List.getD_eq_getElem?_getD,List.getElem?_eq_getElem (by omega),List.getElem?_eq_getElem (by omega)]at this
      rw [List.getElem?_eq_getElem (by omega),List.getElem?_eq_getElem (by omega)]
      simpa using this.symm
    · rw [List.getElem?_eq_none (by simp;omega),List.getElem?_eq_none (by omega)]
   have hn1:n1≤10000:=by omega
   have hn2:n2≤10000:=by omega
   have g1:(n1:Int) < (n2:Int):=by omega
   clear e1 e2 h1 h2 hl hm
   go_enter Tryz.func77,Tryz.ntmps77
   go_wp2
   go_loopw [5] (fun iv wr=>∃ k:Nat,iv= .int .i64 (k:Int)∧k≤n1∧Below w.heap.size w wr∧∀ j,j < k→L.getD j []=M.getD j []) (fun iv _=>n1 - (intOf iv).toNat)
   case atStart=>exact⟨0,rfl,Nat.zero_le _,Below.refl _ _,fun j hj=>absurd hj (by omega)⟩
   case round=>
    obtain⟨k,rfl,hk,hBl,hsame⟩:=hrel
    have hS:Hid (∀ j,j < k→L.getD j []=M.getD j []):=hsame
    clear hsame
    by_cases hlt:k < n1
    · obtain⟨b1,o1,rfl,q1⟩:=ca.out (by omega)
      obtain⟨b2,o2,rfl,q2⟩:=cb.out (by omega)
      have ck1:wr.cell? ⟨b1,o1+k,none⟩=some (.string (str (L.getD k []))):=(Stp.of_below hBl (fun _=>False)).cell (q1 k hlt) id
      have ck2:wr.cell? ⟨b2,o2+k,none⟩=some (.string (str (M.getD k []))):=(Stp.of_below hBl (fun _=>False)).cell (q2 k (by omega)) id
      have hn0:Hid (L.getD k []≠M.getD k []→B=false):=hne.out k hlt
      have hs1:Hid (L.getD k []=M.getD k []→∀ j,j < k+1→L.getD j []=M.getD j []):=fun h j hj=>by
       by_cases e:j < k
       · exact hS.out j e
       · obtain rfl:j=k:=by omega
         exact h
      clear q1 q2
      generalize L.getD k []=X at *
      generalize M.getD k []=Y at *
      have a9:(k:Int) < (n1:Int):=by omega
      have a8:(0:Int)≤(k:Int):=by omega
      have a7:(k:Int) < (n2:Int):=by omega
      have tX:=Z15 X
      have tY:=Z15 Y
      by_cases hx:X=Y
      · subst hx
        have hs2:Hid (∀ j,j < k+1→L.getD j []=M.getD j []):=hs1.out rfl
        clear hs1 hn0
        go_wp2
        go_region
        go_wp2
        go_roundw
        case rel=>exact⟨k+1,by go_num,by omega,hBl.drew,hs2.out⟩
        case measure=>simp [intOf];omega
      · have hf:Hid (B=false):=hn0.out hx
        have hxb:(X==Y)=false:=by simpa using hx
        clear hx hn0 hs1
        go_wp2
        go_region
        go_wp2
        go_returns
        exact⟨by rw [hf.out];rfl,hBl.drew⟩
    · obtain rfl:k=n1:=by omega
      have hf:Hid (B=true):=hall.out hS.out
      go_wp2
      go_returns
      exact⟨by rw [hf.out];rfl,hBl⟩
 · have hf:Hid (B=false):=by show _=_;rw [← hB.out];exact decide_eq_false (fun h=>by have:=h.1;omega)
   have g1:¬(n1:Int) < (n2:Int):=by omega
   have g2:(n2:Int)≤(n1:Int):=by omega
   go_enter Tryz.func77,Tryz.ntmps77
   go_wp2
   go_returns
   exact⟨by rw [hf.out];rfl,Below.refl _ _⟩
set_option maxRecDepth 100000
section
variable {w w' : World} {y fb r c : Nat} {A : Nat → Prop} {F : Nat → Value} {sd sn : Nat → Sv} {Z : Tz}
theorem Z58 (Z:Tz) (k:Nat):Z.N.getD k Nd.zero=Z.nd (k:Int):=rfl
theorem Dw.c0 (h:Dw w y fb r c A F sd sn Z):w.cell? ⟨y,0,none⟩=some (.slice (some ⟨r,0,none⟩) Z.N.length c):=h.tr.cell 0 _ rfl
theorem Dw.c1 (h:Dw w y fb r c A F sd sn Z):w.cell? ⟨y,1,none⟩=some (.pointer (some ⟨fb,0,none⟩)):=h.tr.cell 1 _ rfl
theorem Dw.nk (h:Dw w y fb r c A F sd sn Z) {k:Nat} (hk:k < Z.N.length):w.cell? ⟨r,k * 4,none⟩=some (.int .i64 (Z.nd (k:Int)).k):=by rw [h.row.cell (by omega),(h.cel k hk).1];rfl
theorem Dw.nl (h:Dw w y fb r c A F sd sn Z) {k:Nat} (hk:k < Z.N.length):w.cell? ⟨r,k * 4+1,none⟩=some (.int .i64 (Z.nd (k:Int)).ln):=by rw [h.row.cell (by omega),(h.cel k hk).2.1];rfl
theorem Dw.ndt (h:Dw w y fb r c A F sd sn Z) {k:Nat} (hk:k < Z.N.length):w.cell? ⟨r,k * 4+2,none⟩=some (sd k).v:=by rw [h.row.cell (by omega),(h.cel k hk).2.2.1]
theorem Dw.nnm (h:Dw w y fb r c A F sd sn Z) {k:Nat} (hk:k < Z.N.length):w.cell? ⟨r,k * 4+3,none⟩=some (sn k).v:=by rw [h.row.cell (by omega),(h.cel k hk).2.2.2]
end
theorem Z99 {l:List Ent} {i:Nat} (hi:i < l.length) (s:List UInt8):lk (l.drop i) s=if (l.getD i Ent.zero).s=s then(l.getD i Ent.zero).n else lk (l.drop (i+1)) s:=by
 rw [List.drop_eq_getElem_cons hi,List.getD_eq_getElem?_getD,List.getElem?_eq_getElem hi];rfl
set_option maxHeartbeats 2000000 in
theorem Z9y {w:World} {y r c N k:Nat} {s:Sv} {l:List Ent} {t:List UInt8} (c0:w.cell? ⟨y,0,none⟩=some (.slice (some ⟨r,0,none⟩) N c)) (hk:k < N) (c3:w.cell? ⟨r,k * 4+3,none⟩=some s.v) (hS:EsS w s l):
 Calls Tryz.prog 67 #[.pointer (some ⟨y,0,none⟩), .int .i64 (k:Int), .string (str t)] w fun e w'=>e= .returned (.int .i64 (lk l t))∧w=w':=by
 obtain⟨a,n,cc⟩:=s
 have hl:=hS.len
 simp only at hl
 subst hl
 have hc:Hid (0 < l.length→∃ b,a=some ⟨b,0,none⟩∧∀ i,i < l.length→w.cell? ⟨b,i * 2,none⟩=some (.int .i64 (l.getD i Ent.zero).n)∧w.cell? ⟨b,i * 2+1,none⟩=some (.string (str (l.getD i Ent.zero).s))):=hS.cell
 have a1:(0:Int)≤(k:Int):=by omega
 have a2:(k:Int) < (N:Int):=by omega
 obtain⟨R,hR⟩:∃ R,Hid (lk l t=R):=⟨_,rfl⟩
 rw [hR.out]
 have hcap:l.length≤maxLen:=Nat.le_trans hS.le hS.cap
 unfold maxLen at hcap
 have c3':w.cell? ⟨r,k * 4+3,none⟩=some (.slice a l.length cc):=c3
 clear hS c3
 go_enter Tryz.func67,Tryz.ntmps67
 go_wp2
 go_loopw [8] (fun iv wr=>∃ i:Nat,iv= .int .i64 (i:Int)∧i≤l.length∧w=wr∧Hid (lk (l.drop i) t=R)) (fun iv _=>l.length - (intOf iv).toNat)
 case atStart=>exact⟨0,rfl,Nat.zero_le _,rfl,by show _=_;rw [List.drop_zero];exact hR.out⟩
 case round=>
  obtain⟨i,rfl,hi,rfl,hQ⟩:=hrel
  by_cases hlt:i < l.length
  · obtain⟨b,rfl,hcs⟩:=hc.out (by omega)
    obtain⟨k1,k2⟩:=hcs i hlt
    have hQ2:=hQ.out
    rw [Z99 hlt]at hQ2
    have hQ3:Hid _:=hQ2
    clear hQ2 hQ hcs
    generalize l.getD i Ent.zero=x at *
    have a9:(i:Int) < (l.length:Int):=by omega
    have a8:(0:Int)≤(i:Int):=by omega
    have tX:=Z15 x.s
    have tY:=Z15 t
    by_cases hx:x.s=t
    · have hQ4:Hid (x.n=R):=by have:=hQ3.out;rw [if_pos hx]at this;exact this
      rw [hx]at k2
      clear hQ3 tX hx
      go_wp2
      go_returns
      exact⟨(by rw [hQ4.out];try rfl),rfl⟩
    · have hQ4:Hid (lk (l.drop (i+1)) t=R):=by have:=hQ3.out;rw [if_neg hx]at this;exact this
      have hxb:(x.s==t)=false:=by simpa using hx
      clear hQ3 hx
      go_wp2
      go_roundw
      case rel=>exact⟨i+1,by go_num,by omega,trivial,hQ4⟩
      case measure=>simp [intOf];omega
  · obtain rfl:i=l.length:=by omega
    have hQ4:Hid (R=0):=by have:=hQ.out;rw [List.drop_length]at this;exact this.symm
    clear hQ hlt
    go_wp2
    go_returns
    exact⟨(by rw [hQ4.out];try rfl),rfl⟩
theorem Z72 {w:World} {y fb r c:Nat} {A:Nat→Prop} {F:Nat→Value} {sd sn:Nat→Sv} {Z:Tz} (h:Dw w y fb r c A F sd sn Z) {d:Int} (hd:0≤d∧d.toNat < Z.N.length) (t:List UInt8):
 Calls Tryz.prog 67 #[.pointer (some ⟨y,0,none⟩), .int .i64 d, .string (str t)] w fun e w'=>e= .returned (.int .i64 (lk (Z.nd d).nm t))∧w=w':=by
 obtain⟨k,rfl⟩:∃ k:Nat,d=(k:Int):=⟨d.toNat,by omega⟩
 have hk:k < Z.N.length:=by simpa using hd.2
 exact Z9y h.c0 hk (h.nnm hk) (h.nm k hk).1
set_option maxHeartbeats 2000000 in
theorem Z9j {w:World} {y fb r c:Nat} {A:Nat→Prop} {F:Nat→Value} {sd sn:Nat→Sv} {Z:Tz} (h:Dw w y fb r c A F sd sn Z) {m n:Nat} {x:Int→Int} (hz:Z.okD m n x) {a:Option Addr} {N cc:Nat} {L:List (List UInt8)} (hS:Sts w a N cc L):
 Calls Tryz.prog 50 #[.pointer (some ⟨y,0,none⟩), .slice a N cc] w fun e w'=>e= .returned (.tuple #[.int .i64 (Z.wk L 1).1, .int .i64 (Z.wk L 1).2])∧w=w':=by
 have hl:=hS.len
 subst hl
 have hc:Hid (0 < L.length→∃ b o,a=some ⟨b,o,none⟩∧∀ i,i < L.length→w.cell? ⟨b,o+i,none⟩=some (.string (str (L.getD i [])))):=hS.cell
 have hcap:L.length≤maxLen:=Nat.le_trans hS.le hS.cap
 unfold maxLen at hcap
 clear hS
 obtain⟨R,hR⟩:∃ R,Hid (Z.wk L 1=R):=⟨_,rfl⟩
 rw [hR.out]
 have hrt:=hz.rt
 go_enter Tryz.func50,Tryz.ntmps50
 go_wp2
 go_loopw [6,7] (fun dv iv wr=>∃ (d:Int) (i:Nat),dv= .int .i64 d∧iv= .int .i64 (i:Int)∧i≤L.length∧w=wr∧(Z.nd d).k≠0∧Hid (Z.wk (L.drop i) d=R)) (fun _ iv _=>L.length - (intOf iv).toNat)
 case atStart=>exact⟨1,0,rfl,rfl,Nat.zero_le _,rfl,by rw [hrt];decide,by show _=_;rw [List.drop_zero];exact hR.out⟩
 case round=>
  obtain⟨d,i,rfl,rfl,hi,rfl,hdk,hQ⟩:=hrel
  have hdl:=hz.live hdk
  by_cases hlt:i < L.length
  · obtain⟨b,o,rfl,hcs⟩:=hc.out (by omega)
    have k2:=hcs i hlt
    have e1:L.drop i=L.getD i []::L.drop (i+1):=by
     rw [List.drop_eq_getElem_cons hlt,List.getD_eq_getElem?_getD,List.getElem?_eq_getElem hlt];rfl
    have hQ2:=hQ.out
    rw [e1]at hQ2
    unfold Tz.wk at hQ2
    clear hQ hcs e1
    generalize L.getD i []=t at *
    have a9:(i:Int) < (L.length:Int):=by omega
    have a8:(0:Int)≤(i:Int):=by omega
    obtain⟨k,rfl⟩:∃ k:Nat,d=(k:Int):=⟨d.toNat,by omega⟩
    have hk:k < Z.N.length:=by simpa using hdl.2
    have a7:(k:Int) < (Z.N.length:Int):=by omega
    have a6:(0:Int)≤(k:Int):=by omega
    have c0:=h.c0
    have cn:=h.nk hk
    have hf:=Z72 h (d:=(k:Int)) ⟨a6,hdl.2⟩ t
    by_cases h2:(Z.nd (k:Int)).k=2
    · rw [if_pos h2]at hQ2
      rw [h2]at cn
      by_cases h3:lk (Z.nd (k:Int)).nm t=0
      · rw [if_pos h3]at hQ2
        rw [h3]at hf
        have hQ3:Hid (R=(0,40)):=hQ2.symm
        clear hQ2 h3 h2 hdk
        go_wp2_with (go_at_call 67;refine hf.mono ?_;rintro e u ⟨rfl,rfl⟩)
        go_returns
        exact⟨(by rw [hQ3.out];try rfl),rfl⟩
      · rw [if_neg h3]at hQ2
        have hlv:=(Z2o hz (k:Int) h3).2
        have hQ3:Hid _:=hQ2
        have q3:(lk (Z.nd (k:Int)).nm t==0)=false:=by simpa using h3
        clear hQ2 h3 h2 hdk
        generalize lk (Z.nd (k:Int)).nm t=j at *
        go_wp2_with (go_at_call 67;refine hf.mono ?_;rintro e u ⟨rfl,rfl⟩)
        go_roundw
        case rel=>exact⟨j,i+1,rfl,by go_num,by omega,trivial,hlv,hQ3⟩
        case measure=>simp [intOf];omega
    · rw [if_neg h2]at hQ2
      have hQ3:Hid (R=(0,42)):=hQ2.symm
      have q2:((Z.nd (k:Int)).k != 2)=true:=by simpa using h2
      clear hQ2 h2 hdk hf
      generalize (Z.nd (k:Int)).k=K at *
      go_wp2
      go_returns
      exact⟨(by rw [hQ3.out];try rfl),rfl⟩
  · obtain rfl:i=L.length:=by omega
    have hQ3:Hid (R=(d,0)):=by have:=hQ.out;rw [List.drop_length]at this;exact this.symm
    clear hQ hlt hdk
    go_wp2
    go_returns
    exact⟨(by rw [hQ3.out];try rfl),rfl⟩
set_option maxRecDepth 100000
set_option maxHeartbeats 2000000 in
theorem Z75 {w:World} {U:Nat→Prop} {y:Nat} {Z:Tz} (h:Dx w U y Z) {m n:Nat} {x:Int→Int} (hz:Z.okD m n x) (p:List UInt8) (hp:p.length≤5000):
 Calls Tryz.prog 21 #[.pointer (some ⟨y,0,none⟩), .string (str p)] w fun e w'=>e= .returned (.tuple #[.int .i64 (Z.wa p).1, .int .i64 (Z.wa p).2])∧Below w.heap.size w w':=by
 obtain⟨fb,r,c,A,F,sd,sn,H,hU⟩:=h
 have hC:=Z4x p w hp
 have hK:=fun w' (b:Below w.heap.size w w') a N c (hS:Sts w' a N c (spN p))=>Z9j (H.later b) hz hS
 unfold Tz.wa
 by_cases h1:spE p=0
 · rw [if_pos h1]
   go_enter Tryz.func21,Tryz.ntmps21
   go_wp2_with (first
    | (go_at_call 49;refine hC.mono ?_;rintro e w1 ⟨⟨a,N,cc,rfl,hS⟩,b1⟩;clear hC;rw [h1])
    | (go_at_call 50;refine(hK _ b1 _ _ _ hS).mono ?_;rintro e w2 ⟨rfl,rfl⟩))
   go_returns
   exact⟨rfl,b1⟩
 · rw [if_neg h1]
   have q1:(spE p != 0)=true:=by simpa using h1
   clear hK
   go_enter Tryz.func21,Tryz.ntmps21
   go_wp2_with (go_at_call 49;refine hC.mono ?_;rintro e w1 ⟨⟨a,N,cc,rfl,hS⟩,b1⟩;clear hC)
   go_returns
   exact⟨rfl,b1⟩
def ParR (Z:Tz) (p:List UInt8) (E:Int) (e:Ending):Prop:=∃ d s,e= .returned (.tuple #[.int .i64 d, .string s, .int .i64 E])∧(E=0→d=Z.paD p∧s=str (lsS p))
set_option maxHeartbeats 2000000 in
theorem Z5o {w:World} {U:Nat→Prop} {y:Nat} {Z:Tz} (h:Dx w U y Z) {m n:Nat} {x:Int→Int} (hz:Z.okD m n x) (p:List UInt8) (hp:p.length≤5000) (root:Int) (hr:root≠0):
 Calls Tryz.prog 66 #[.pointer (some ⟨y,0,none⟩), .string (str p), .int .i64 root] w fun e w'=>ParR Z p (Z.paE p root) e∧Below w.heap.size w w':=by
 obtain⟨fb,r,c,A,F,sd,sn,H,hU⟩:=h
 have hC:=Zb0 p w hp
 have hK:=fun w' (b:Below w.heap.size w w') a N c (hS:Sts w' a N c (lsN p))=>Z9j (H.later b) hz hS
 unfold Tz.paE
 by_cases h1:lsE p=2
 · rw [if_pos h1]
   clear hK
   go_enter Tryz.func66,Tryz.ntmps66
   go_wp2_with (go_at_call 109;refine hC.mono ?_;rintro e w1 ⟨⟨a,N,cc,rfl,hS⟩,b1⟩;clear hC;rw [h1])
   go_returns
   exact⟨⟨_,_,rfl,fun e=>absurd e hr⟩,b1⟩
 · rw [if_neg h1]
   by_cases h2:lsE p=0
   · rw [if_pos h2]
     have hlv:=fun e=>Z5n hz (lsN p) 1 (by rw [hz.rt];decide) e
     have hPD:Hid ((Z.wk (lsN p) 1).1=Z.paD p):=rfl
     by_cases h3:(Z.wk (lsN p) 1).2=0
     · rw [if_pos h3]
       have hk:=hlv h3
       have hkl:=hz.live hk
       rw [h3]at hK
       rw [← hPD.out]
       obtain⟨d,hd⟩:∃ d,Hid ((Z.wk (lsN p) 1).1=d):=⟨_,rfl⟩
       rw [hd.out]at hk hkl hK hPD ⊢
       clear hlv h3 hd h1
       obtain⟨k,rfl⟩:∃ k:Nat,d=(k:Int):=⟨d.toNat,by omega⟩
       have hkN:k < Z.N.length:=by simpa using hkl.2
       have a7:(k:Int) < (Z.N.length:Int):=by omega
       have a6:(0:Int)≤(k:Int):=by omega
       by_cases h4:(Z.nd (k:Int)).k=2
       · rw [if_pos h4]
         go_enter Tryz.func66,Tryz.ntmps66
         go_wp2_with (first
          | (go_at_call 109;refine hC.mono ?_;rintro e w1 ⟨⟨a,N,cc,rfl,hS⟩,b1⟩;clear hC;rw [h2])
          | (go_at_call 50;refine(hK _ b1 _ _ _ hS).mono ?_;rintro e w2 ⟨rfl,rfl⟩;clear hK
             have c0:=(H.later b1).c0
             have cn:=(H.later b1).nk hkN
             rw [h4]at cn))
         go_returns
         exact⟨⟨_,_,rfl,fun _=>⟨hPD.out,rfl⟩⟩,b1⟩
       · rw [if_neg h4]
         have q4:((Z.nd (k:Int)).k != 2)=true:=by simpa using h4
         go_enter Tryz.func66,Tryz.ntmps66
         go_wp2_with (first
          | (go_at_call 109;refine hC.mono ?_;rintro e w1 ⟨⟨a,N,cc,rfl,hS⟩,b1⟩;clear hC;rw [h2])
          | (go_at_call 50;refine(hK _ b1 _ _ _ hS).mono ?_;rintro e w2 ⟨rfl,rfl⟩;clear hK
             have c0:=(H.later b1).c0
             have cn:=(H.later b1).nk hkN))
         go_returns
         exact⟨⟨_,_,rfl,fun e=>by cases e⟩,b1⟩
     · rw [if_neg h3]
       have q3:((Z.wk (lsN p) 1).2==0)=false:=by simpa using h3
       clear hlv hPD
       obtain⟨d,hd⟩:∃ d,(Z.wk (lsN p) 1).1=d:=⟨_,rfl⟩
       rw [hd]at hK
       generalize (Z.wk (lsN p) 1).2=E at *
       go_enter Tryz.func66,Tryz.ntmps66
       go_wp2_with (first
        | (go_at_call 109;refine hC.mono ?_;rintro e w1 ⟨⟨a,N,cc,rfl,hS⟩,b1⟩;clear hC;rw [h2])
        | (go_at_call 50;refine(hK _ b1 _ _ _ hS).mono ?_;rintro e w2 ⟨rfl,rfl⟩;clear hK))
       go_returns
       exact⟨⟨_,_,rfl,fun e=>absurd e h3⟩,b1⟩
   · rw [if_neg h2]
     have q1:(lsE p==2)=false:=by simpa using h1
     have q2:(lsE p != 0)=true:=by simpa using h2
     clear hK
     go_enter Tryz.func66,Tryz.ntmps66
     go_wp2_with (go_at_call 109;refine hC.mono ?_;rintro e w1 ⟨⟨a,N,cc,rfl,hS⟩,b1⟩;clear hC)
     go_returns
     exact⟨⟨_,_,rfl,fun e=>absurd e h2⟩,b1⟩
set_option maxRecDepth 100000
def but (s:List UInt8):List Ent→List Ent
 | []=> []
 | e::r=>if e.s=s then but s r else e::but s r
theorem Z7j {s:List UInt8} :∀ {l:List Ent},(∀ e ∈ l,e.s≠s)→but s l=l
 | [],_=>rfl
 | e::r,h=>by unfold but;rw [if_neg (h e (by simp)),Z7j (fun x hx=>h x (by simp [hx]))]
theorem Zcb {e:Ent} {r:List Ent} (hl:Srd (e::r)) {s:List UInt8} (h:ltB e.s s=false) (i:Int):ptL (e::r) s i=ins0 s i++but s (e::r):=by
 have h0:∀ x ∈ r,e.s=s→x.s≠s:=fun x hx he=>by rw [← he];exact fun c=>Z34 (hl.head x hx) c.symm
 have h1:e.s≠s→∀ x ∈ r,x.s≠s:=fun he x hx c=>by
  have:=Z47 (Z6m h he) (hl.head x hx)
  rw [c,Z4e]at this;cases this
 unfold ptL
 rw [if_neg (by rw [h];decide)]
 by_cases he:e.s=s
 · rw [if_pos he];unfold but;rw [if_pos he,Z7j (fun x hx=>h0 x hx he)]
 · rw [if_neg he];unfold but;rw [if_neg he,Z7j (h1 he)]
theorem Z32 {l:List Ent} {i:Nat} (hi:i < l.length):l.drop i=l.getD i Ent.zero::l.drop (i+1):=by
 rw [List.drop_eq_getElem_cons hi,List.getD_eq_getElem?_getD,List.getElem?_eq_getElem hi];rfl
theorem Zch {l:List Ent} (h:Srd l) (i:Nat):Srd (l.drop i):=List.Pairwise.sublist (List.drop_sublist i l) h
def OwN (B:Nat) (w:World) (v:Value) (l:List Ent):Prop:=OwE' w v l∧New B v
theorem OwN.later {B:Nat} {w w':World} {v:Value} {l:List Ent} (h:OwN B w v l) (k:Below w.heap.size w w'):OwN B w' v l:=⟨Z5z h.1 k,h.2⟩
theorem OwN.one {B:Nat} {w:World} {v:Value} {l:List Ent} (h:OwN B w v l):v.oneCell'=true:=by
 rcases h.1.2 with⟨rfl,_⟩ | ⟨g,cap,cur,rfl,_⟩<;>rfl
theorem OwN.shape {B:Nat} {w:World} {v:Value} {l:List Ent} (h:OwN B w v l):∃ a n c,v= .slice a n c:=by
 rcases h.1.2 with⟨rfl,_⟩ | ⟨g,cap,cur,rfl,_⟩
 · exact⟨_,_,_,rfl⟩
 · exact⟨_,_,_,rfl⟩
def Ent.c2 (e:Ent):List Value:= [.int .i64 e.n, .string (str e.s)]
theorem Ent.c2_one (e:Ent):∀ v ∈ e.c2,v.oneCell'=true:=by
 intro v hv;unfold Ent.c2 at hv;simp at hv;rcases hv with rfl | rfl<;>rfl
theorem Z7b:Srt 66 2 Ent.zero.c2:=
 ⟨⟨_,Tryz.underlying66,rfl⟩,by kernel_rfl,fun w=>(zero_of_info (v:= .agg Ent.zero.c2.toArray) (n:=2) (by kernel_rfl)).1 w,rfl,Ent.zero.c2_one⟩
theorem Zae (x:Ent) (w:World):(Instr.buildSlice 46 1 #[(0, .agg x.c2.toArray)]).run Tryz.prog w= .ok (.slice (some ⟨w.heap.size,0,none⟩) 1 1) (w.alloc (.cells x.c2.toArray 66)):=by
 obtain⟨n,s⟩:=x;kernel_rfl
section
variable {ops : Array Oper} {rest : List Oper} {o : Oper} {a : Act} {w : World} {Q : Exit → Act → World → Prop}
theorem Z49 (hw:Region.wanted o (yielded ops a.tmps)=true) (x:Operand) (ho:o.op= .load 66 x) (b i:Nat) (hx:a.eval x= .pointer (some ⟨b,i,none⟩)) (e:Ent) (h1:w.cell? ⟨b,i,none⟩=some (.int .i64 e.n)) (h2:w.cell? ⟨b,i+1,none⟩=some (.string (str e.s)))
 (h:wpList Tryz.prog ops Q rest (a.put o.dst (.agg e.c2.toArray)) w):wpList Tryz.prog ops Q (o::rest) a w:=by
 refine Z11 hw _ _ ?_ h
 obtain⟨d,k1,k2⟩:=Z7b.und
 have hr:w.rangeAt b i e.c2:=fun j v hv=>by
  unfold Ent.c2 at hv
  match j,hv with
  | 0,hv=>simp at hv;subst hv;exact h1
  | 1,hv=>simp at hv;subst hv;exact h2
  | j+2,hv=>simp at hv
 have:(loadVar 66 ⟨b,i,none⟩).run Tryz.prog w= .ok (.agg e.c2.toArray) w:=run_loadVar_mid w b _ _ e.c2 _ hr k1 k2 (by rw [Z7b.size];rfl)
 simp [execOp,ho,hx,Instr.loadAt,Instr.sureAddr,this]
theorem Z3a (hw:Region.wanted o (yielded ops a.tmps)=true) (x:Operand) (ho:o.op= .buildSlice 46 1 #[(0,x)]) (y:Ent) (hx:a.eval x= .agg y.c2.toArray)
 (h:∀ g w',w.heap.size≤g→Cs w' g y.c2→Below w.heap.size w w'→wpList Tryz.prog ops Q rest (a.put o.dst (.slice (some ⟨g,0,none⟩) 1 1)) w'):wpList Tryz.prog ops Q (o::rest) a w:=by
 refine Z11 hw _ _ ?_ (h w.heap.size _ (Nat.le_refl _) (Cs.made w y.c2 66 y.c2_one) ((Below.refl _ _).alloc (Nat.le_refl _) _))
 simp [execOp,ho,hx,Zae]
theorem Zbp {B:Nat} (hw:Region.wanted o (yielded ops a.tmps)=true) (ho:o.op= .buildSlice 46 0 #[]) (hB:B≤w.heap.size)
 (h:∀ g w',OwN B w' (.slice (some ⟨g,0,none⟩) 0 0) []→Below w.heap.size w w'→wpList Tryz.prog ops Q rest (a.put o.dst (.slice (some ⟨g,0,none⟩) 0 0)) w'):wpList Tryz.prog ops Q (o::rest) a w:=by
 have hR:(w.alloc (.cells #[] 66)).ownsRow B 66 2 (.slice (some ⟨w.heap.size,0,none⟩) 0 0) 0 []:=World.ownsRow_made w #[] 0 hB (Nat.zero_le _) rfl
 refine Z11 hw _ _ ?_ (h w.heap.size _ ⟨Z4k hR,fun r hr=>(hR.lt r hr).1⟩ ((Below.refl _ _).alloc (Nat.le_refl _) _))
 have:(Instr.buildSlice 46 0 #[]).run Tryz.prog w= .ok (.slice (some ⟨w.heap.size,0,none⟩) 0 0) (w.alloc (.cells #[] 66)):=by kernel_rfl
 simp [execOp,ho,this]
theorem Z2w {B:Nat} {v:Value} {l:List Ent} (hgd:o.guard=none) (s x:Operand)
 (ho:o.op= .call { callee:= .builtin .append,args:=#[s,x],argTypes:=#[46,46]}) (hs:a.eval s=v) (h0:OwN B w v l)
 (g2:Nat) (y:Ent) (hx:a.eval x= .slice (some ⟨g2,0,none⟩) 1 1) (hr:Cs w g2 y.c2) (hbig:l.length≤100000) (hB:B≤w.heap.size)
 (h:∀ v' w',OwN B w' v' (l++ [y])→Stp (fun x=>B≤x) w w'→wpList Tryz.prog ops Q rest (a.put o.dst v') w'):wpList Tryz.prog ops Q (o::rest) a w:=by
 refine Z39 elEn B hgd s x ho hs h0.1 h0.2 (some ⟨g2,0,none⟩) 1 y.c2 (m:=1) hx rfl (fun e=>by cases e) (fun ad e j u hu=>?_) y.c2_one (by omega) hB ?_
 · injection e with e;subst e
   rw [Addr.add_lit,Nat.zero_add];exact hr.cell j u hu
 intro v' w' hA
 obtain⟨h1,h2,h3,h4,h5⟩:=hA
 refine h v' w' ⟨?_,h2⟩ (h4.mono (fun x e=> .inl (h0.2 x e)))
 have e1:(l++ [y]).length=l.length+1:=by simp
 have e2:flE (l++ [y])=flE l++y.c2:=by rw [Z96];rfl
 unfold OwE'
 rw [e1,e2];exact h1
end
theorem Z2k {W w w':World} (h:Below W.heap.size W w) (k:Stp (fun x=>W.heap.size≤x) w w'):Below W.heap.size W w':=
 ((Stp.of_below h (fun _=>False)).next k (fun x e=> .inr e)).below (Nat.le_refl _) (fun x e=>e.elim)
set_option maxRecDepth 100000
def tnC (x:Nd) (s:Sv) (v:Value):List Value:= [.int .i64 x.k, .int .i64 x.ln,s.v,v]
theorem Z2e (x:Nd) (s:Sv) {v:Value} (h:v.oneCell'=true):∀ u ∈ tnC x s v,u.oneCell'=true:=by
 intro u hu;unfold tnC at hu;simp at hu;rcases hu with rfl | rfl | rfl | rfl<;>first | rfl | exact h
theorem Z1j:Srt 48 4 (tnC Nd.zero Sv.nil (.slice none 0 0)):=
 ⟨⟨_,Tryz.underlying48,rfl⟩,by kernel_rfl,fun w=>(zero_of_info (v:= .agg (tnC Nd.zero Sv.nil (.slice none 0 0)).toArray) (n:=4) (by kernel_rfl)).1 w,rfl,Z2e _ _ rfl⟩
section
variable {ops : Array Oper} {rest : List Oper} {o : Oper} {a : Act} {w : World} {Q : Exit → Act → World → Prop} {K : Act → World → Prop} {R : Prop}
theorem Zbe (hgd:o.guard=none) (x:Operand) (ho:o.op= .buildSlice 46 1 #[(0,x)]) (y:Ent) (hx:a.eval x= .agg y.c2.toArray)
 (h:∀ g w',w.heap.size≤g→Cs w' g y.c2→Below w.heap.size w w'→K (a.put o.dst (.slice (some ⟨g,0,none⟩) 1 1)) w'):if Region.wanted o (yielded ops a.tmps)=true then Oper.wp Tryz.prog o a w K Q else R:=by
 have hw:Region.wanted o (yielded ops a.tmps)=true:=by simp [Region.wanted,hgd]
 rw [if_pos hw]
 have hr:(execOp a.eval o).run Tryz.prog w= .ok (.value (.slice (some ⟨w.heap.size,0,none⟩) 1 1)) (w.alloc (.cells y.c2.toArray 66)):=by simp [execOp,ho,hx,Zae]
 unfold Oper.wp
 rw [hr]
 exact h w.heap.size _ (Nat.le_refl _) (Cs.made w y.c2 66 y.c2_one) ((Below.refl _ _).alloc (Nat.le_refl _) _)
theorem Za7 {B:Nat} {v:Value} {l:List Ent} (hgd:o.guard=none) (s x:Operand)
 (ho:o.op= .call { callee:= .builtin .append,args:=#[s,x],argTypes:=#[46,46]}) (hs:a.eval s=v) (h0:OwN B w v l)
 (g2:Nat) (y:Ent) (hx:a.eval x= .slice (some ⟨g2,0,none⟩) 1 1) (hr:Cs w g2 y.c2) (hbig:l.length≤100000) (hB:B≤w.heap.size)
 (h:∀ v' w',OwN B w' v' (l++ [y])→Stp (fun x=>B≤x) w w'→K (a.put o.dst v') w'):if Region.wanted o (yielded ops a.tmps)=true then Oper.wp Tryz.prog o a w K Q else R:=by
 refine Zbd elEn B hgd s x ho hs h0.1 h0.2 (some ⟨g2,0,none⟩) 1 y.c2 (m:=1) hx rfl (fun e=>by cases e) (fun ad e j u hu=>?_) y.c2_one (by omega) hB ?_
 · injection e with e;subst e
   rw [Addr.add_lit,Nat.zero_add];exact hr.cell j u hu
 intro v' w' hA
 obtain⟨h1,h2,h3,h4,h5⟩:=hA
 refine h v' w' ⟨?_,h2⟩ (h4.mono (fun x e=> .inl (h0.2 x e)))
 have e1:(l++ [y]).length=l.length+1:=by simp
 have e2:flE (l++ [y])=flE l++y.c2:=by rw [Z96];rfl
 unfold OwE'
 rw [e1,e2];exact h1
end
def RetN (e:Ending) (x:Nd) (w w':World):Prop:=∃ s t:Sv,e= .returned (.tuple #[.agg (tnC x s t.v).toArray, .int .i64 (if x.k=0 then 5 else 0)])∧BsS w' s x.d∧EsS w' t x.nm∧Below w.heap.size w w'
theorem Zdn {w:World} {U:Nat→Prop} {g B m n:Nat} {q:Int→Nat} {Z:Tz} {x:Int→Int} (h:Tx w U g q B Z) (hz:Z.okD m n x) {i:Int} (hi:wfi i) (hk:(Z.nd i).k=0):
 Calls Tryz.prog 14 #[.pointer (some ⟨g,0,none⟩), .int .i64 i] w fun e w'=>RetN e (Z.nd i) w w':=by
 have h0:=hz.gn i hk
 obtain⟨tg,mb,ob,nb,sv,H,hU⟩:=h
 rw [h0]
 have c0:=H.c0
 go_enter Tryz.func14,Tryz.ntmps14
 go_wp2_with (first
  | (refine Z1o 48 4 _ Z1j (by rfl) (by rfl) ?_;intro gr w1 z1 z2 r1 b1
     have H1:=H.later b1
     clear c0
     have c0:=H1.c0
     have lo:=H1.lookN hk hi)
  | (refine Z1g 48 4 _ Z1j (by rfl) _ _ (by rfl) gr (by rfl) (tnC Nd.zero Sv.nil (.slice none 0 0)) (by rfl) rfl (Z2e _ _ rfl) _ r1 rfl ?_;intro w9 r9 s9))
 exact bodyPost_ret (Z0d Z1j Tryz.results14 rfl rfl r9 rfl) rfl ⟨Sv.nil,Sv.nil,rfl,Z0y _,EsS.nil _,((Stp.of_below b1 (fun _=>False)).next s9 (fun y e=> .inr (by omega))).below (Nat.le_refl _) (fun y e=>e.elim)⟩
end Go.Proofs.YtdnjddpfcgginaaGreat
