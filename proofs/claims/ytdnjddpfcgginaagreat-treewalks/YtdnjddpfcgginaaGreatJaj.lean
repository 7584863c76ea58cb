/-
  Texts of my own, joined: no statement is proved here.
-/
import Derived.Sort.KeysCollected
import Derived.Shelf.SlIter.Sorted
import Derived.Shelf.SlIter.Keys
import Derived.Shelf.SlIter.Nil
import Derived.Shelf.SlMaps.Clone
import Derived.Deep.DeepCutAuto
import Derived.Test.YtdnjddpfcgginaaGreatJai
set_option linter.unusedSimpArgs false
set_option linter.unusedVariables false
namespace Go.Proofs.YtdnjddpfcgginaaGreat
open Go.ChangeShapes Go.WideShapes Go.ChangeAt Go.RowKit Go.Shelf
set_option maxRecDepth 100000
def keyT (s:List UInt8):Lit:= .string s
theorem Z5h {a b:List UInt8} (h:a≠b):keyT a≠keyT b:=fun e=>h (by injection e)
theorem Zc0 (s:List UInt8):WideAt.IsKeyLit (keyT s):=trivial
def Z1z (D:DataW Value) (f:List UInt8→Option Value):Prop:=
 ∀ k,match f k with
   | none=>Maps.has D (keyT k)=false
   | some v=>∀ z,D.atKey (keyT k) z= .held v
section
variable {D : DataW Value} {f g : List UInt8 → Option Value}
theorem Z1z.none (h:Z1z D f) {k:List UInt8} (e:f k=none):Maps.has D (keyT k)=false:=by have:=h k;rw [e]at this;exact this
theorem Z1z.some (h:Z1z D f) {k:List UInt8} {v:Value} (e:f k=some v) (z:DataW Value):D.atKey (keyT k) z= .held v:=by have:=h k;rw [e]at this;exact this z
theorem Z1z.has (h:Z1z D f) (k:List UInt8):Maps.has D (keyT k)=(f k).isSome:=by
 cases e:f k with
 | none=>rw [h.none e];rfl
 | some v=>rw [Maps.has_true_of_atKey (h.some e)];rfl
theorem Z8r:Z1z (.map []) (fun _=>Option.none):=fun k=>rfl
theorem Z1z.congr (h:Z1z D f) (e:∀ k,f k=g k):Z1z D g:=fun k=>by have:=h k;rw [e k]at this;exact this
theorem Z1z.put (h:Z1z D f) (hD:Maps.IsMap D) (k:List UInt8) (v:Value):Z1z (D.put (keyT k) (.held v)) (fun x=>if x=k then Option.some v else f x):=fun x=>by
 by_cases e:x=k
 · subst e;simp only [if_true];intro z;exact Maps.atKey_put_same hD (Zc0 x) _ z
 · simp only [if_neg e]
   cases ef:f x with
   | none=>simp only [];rw [Maps.has_put_other (Z5h e)];exact h.none ef
   | some u=>intro z;rw [Maps.atKey_put_other (Z5h e)];exact h.some ef z
theorem Z1z.del (h:Z1z D f) (k:List UInt8):Z1z (D.del (keyT k)) (fun x=>if x=k then Option.none else f x):=fun x=>by
 by_cases e:x=k
 · subst e;simp only [if_true];exact Maps.has_del_same
 · simp only [if_neg e]
   cases ef:f x with
   | none=>simp only [];rw [Maps.has_del_other (Z5h e)];exact h.none ef
   | some u=>intro z;rw [Maps.atKey_del_other (Z5h e)];exact h.some ef z
end
theorem uTx:Tryz.prog.underlying 9=some .string:=by kernel_rfl
theorem uMt:Tryz.prog.underlying 71=some (.map 9 3):=by kernel_rfl
theorem zIn (w:World):(zeroValue 3).run Tryz.prog w= .ok (.int .i64 0) w:=by kernel_rfl
theorem wfT {s:List UInt8} (h:s.length≤maxLen):keyOf Tryz.prog 9 (.string (str s))=some (keyT s):=by
 have:=Go.WideMaps.keyOf_string_mk uTx (s:=str s) (by rw [Z1d];exact h)
 rw [Z40]at this;exact this
def nmF (l:List Ent):List UInt8→Option Value:=fun s=>if lk l s=0 then none else some (.int .i64 (lk l s))
def MpT (w:World) (b n:Nat) (l:List Ent):Prop:=∃ D,w.ownsMap Tryz.prog 9 Z20 b n D∧Z1z D (nmF l)
section
variable {w w' : World} {b n : Nat} {l : List Ent} {F : Nat → Prop}
theorem MpT.lt (h:MpT w b n l):b < w.heap.size:=by obtain⟨D,h,_⟩:=h;exact h.lt
theorem MpT.step (h:MpT w b n l) (k:Stp F w w') (hb:¬F b):MpT w' b n l:=by
 have hl:=h.lt
 obtain⟨D,⟨es,clock,hh,rest⟩,hR⟩:=h
 exact⟨D,⟨es,clock,(k.block b hl hb).trans hh,rest⟩,hR⟩
theorem MpT.later (h:MpT w b n l) (k:Below w.heap.size w w'):MpT w' b n l:=h.step (Stp.of_below k (fun _=>False)) id
theorem MpT.mono (h:MpT w b n l) {n':Nat} (hn:n≤n'):MpT w b n' l:=by obtain⟨D,h1,h2⟩:=h;exact⟨D,h1.mono hn,h2⟩
theorem MpT.made (w:World):MpT (w.alloc (.map #[] 0)) w.heap.size 0 []:=⟨_,World.ownsMap_made w Tryz.prog 9 Z20,Z8r⟩
theorem MpT.look (h:MpT w b n l) {s:List UInt8} (hs:s.length≤maxLen):(Instr.lookup 71 (.map (some b)) (.string (str s)) false).run Tryz.prog w= .ok (.int .i64 (lk l s)) w:=by
 obtain⟨D,h1,hR⟩:=h
 obtain⟨v,ps,hr,h2⟩:=h1.lookup (Maps.string_keyed uTx) uMt (zIn w) (zd:= .held (.int .i64 0)) (zp:= []) rfl (wfT hs)
 rw [hr]
 have e:DataW.held v=D.atKey (keyT s) (.held (.int .i64 0)):=by injection h2 with h2;injection h2
 by_cases h0:lk l s=0
 · rw [Maps.atKey_of_not_has (hR.none (k:=s) (by unfold nmF;rw [if_pos h0]))]at e;injection e with e;rw [e,h0]
 · rw [hR.some (k:=s) (v:= .int .i64 (lk l s)) (by unfold nmF;rw [if_neg h0])]at e;injection e with e;rw [e]
theorem MpT.look2 (h:MpT w b n l) {s:List UInt8} (hs:s.length≤maxLen):(Instr.lookup 71 (.map (some b)) (.string (str s)) true).run Tryz.prog w= .ok (.tuple #[.int .i64 (lk l s), .bool (decide (lk l s≠0))]) w:=by
 obtain⟨D,h1,hR⟩:=h
 obtain⟨v,ps,hr,h2⟩:=h1.look_ok (Maps.string_keyed uTx) uMt (zIn w) (zd:= .held (.int .i64 0)) (zp:= []) rfl (wfT hs)
 rw [hr,hR.has s]
 have e:DataW.held v=D.atKey (keyT s) (.held (.int .i64 0)):=by injection h2 with h2;injection h2
 by_cases h0:lk l s=0
 · rw [Maps.atKey_of_not_has (hR.none (k:=s) (by unfold nmF;rw [if_pos h0]))]at e;injection e with e
   rw [e,h0];unfold nmF;rw [if_pos h0];simp
 · rw [hR.some (k:=s) (v:= .int .i64 (lk l s)) (by unfold nmF;rw [if_neg h0])]at e;injection e with e
   rw [e];unfold nmF;rw [if_neg h0];simp [h0]
theorem MpT.store (h:MpT w b n l) (hl:Srd l) (hn:n < 100000) {s:List UInt8} (hs:s.length≤maxLen) {i:Int} (hi:i≠0):
 ∃ w',(Instr.mapUpdate 71 (.map (some b)) (.string (str s)) (.int .i64 i)).run Tryz.prog w= .ok () w'∧MpT w' b (n+1) (ptL l s i)∧Stp (fun x=>x=b) w w':=by
 obtain⟨D,h1,hR⟩:=h
 obtain⟨w',r1,r2,r3⟩:=h1.store (Maps.string_keyed uTx) uMt (by unfold maxLen;omega) (wfT hs) (val:= .int .i64 i) (d:= .held (.int .i64 i)) (ps:= []) rfl
 refine⟨w',r1,⟨_,r2,(hR.put h1.isMap s (.int .i64 i)).congr (fun x=>?_)⟩,Z3p r3⟩
 unfold nmF
 rw [Z1m hl]
 by_cases e:x=s
 · simp [e,hi]
 · simp [e]
theorem MpT.drop (h:MpT w b n l) (hl:Srd l) {s:List UInt8} (hs:s.length≤maxLen) (ty:TypeId):
 ∃ w',(Builtin.delete_ #[71,9] ty #[.map (some b), .string (str s)]).run Tryz.prog w= .ok (.tuple #[]) w'∧MpT w' b n (ptL l s 0)∧Stp (fun x=>x=b) w w':=by
 obtain⟨D,h1,hR⟩:=h
 obtain⟨w',r1,r2,r3⟩:=h1.drop (Maps.string_keyed uTx) uMt (wfT hs) ty
 refine⟨w',r1,⟨_,r2,(hR.del s).congr (fun x=>?_)⟩,Z3p r3⟩
 unfold nmF
 rw [Z1m hl]
 by_cases e:x=s
 · simp [e]
 · simp [e]
theorem Zci {l:List Ent} (hl:Srd l):(l.map (·.s)).Nodup:=by
 rw [List.Nodup,List.pairwise_map]
 exact hl.imp (fun h=>Z34 h)
theorem MpT.keys (h:MpT w b n l) (hl:Srd l) (h0:∀ e ∈ l,e.n≠0):∃ D,w.ownsMap Tryz.prog 9 Z20 b n D∧(l.map (·.s)).Perm (strKeys D):=by
 obtain⟨D,h1,hR⟩:=h
 refine⟨D,h1,?_⟩
 obtain⟨es,hD,hpw,_⟩:=h1.entries (Maps.string_keyed uTx)
 obtain⟨es',hD',hko⟩:=h1.keysOf
 obtain rfl:es=es':=by rw [hD]at hD';simpa using hD'
 subst hD
 refine perm_strKeys hpw (fun p hp=>by obtain⟨v,hv⟩:=hko p hp;obtain⟨x,_,hx,_⟩:=Maps.keyOf_str uTx hv;exact⟨x,hx⟩) (Zci hl) (fun x=>?_)
 have:=hR.has x
 unfold keyT at this
 rw [this]
 unfold nmF
 constructor
 · intro hx
   obtain⟨e,he,rfl⟩:=List.mem_map.1 hx
   rw [if_neg (by rw [Zcq hl he];exact h0 e he)];rfl
 · intro hx
   by_cases hz:lk l x=0
   · rw [if_pos hz]at hx;cases hx
   · obtain⟨e,h2,h3,_⟩:=Z3u hz
     exact List.mem_map.2 ⟨e,h2,h3⟩
theorem Zcj {l:List Ent} (hl:Srd l):(l.map (·.s)).mergeSort leB=l.map (·.s):=by
 refine List.mergeSort_of_pairwise ?_
 rw [List.pairwise_map]
 exact hl.imp (fun h=>by simp only [leB,decide_eq_true_eq];exact Std.le_of_lt (Z33.1 h))
theorem MpT.size {D:DataW Value} (h:w.ownsMap Tryz.prog 9 Z20 b n D):Maps.size D≤n:=by
 obtain⟨es,clock,hb,Ft,hs,hD⟩:=h
 rw [hD];simp [Maps.size,length_sorted];exact hs
end
theorem Zbj (m:Nat):AnyZ.SortsIn Tryz.prog YtdnjddpfcgginaaGreat.sortedT_ren Fence.wide m:=
 ⟨fun blk off cap ss W hH hblk hsz=>callsIn_wide.2 (Any.slices_Sort_string YtdnjddpfcgginaaGreat.lays190 blk off cap ss W hH hblk hsz),
  fun p cap W=>callsIn_wide.2 (Any.slices_Sort_string_none YtdnjddpfcgginaaGreat.lays190 p cap W)⟩
theorem Z6z (mb:Option Nat) (W:World):Calls Tryz.prog 80 #[.map mb] W fun e w'=>e= .returned (.func (.func 113) #[] #[.pointer (some ⟨W.heap.size,0,none⟩)])∧w'=W.alloc (.cells #[.map mb] 71):=
 (callsIn_wide (n:=5)).1 (AnyZ.keys_in YtdnjddpfcgginaaGreat.keysT Fence.wide 5 trivial rfl mb W)
set_option maxRecDepth 100000 in
set_option maxHeartbeats 2000000 in
theorem Z8y {w:World} {b n:Nat} {l:List Ent} (h:MpT w b n l) (hl:Srd l) (h0:∀ e ∈ l,e.n≠0) (hn:n≤100000):
 Calls Tryz.prog 79 #[.func (.func 113) #[] #[.pointer (some ⟨w.heap.size,0,none⟩)]] (w.alloc (.cells #[.map (some b)] 71)) fun e w'=>∃ v,e= .returned v∧OwT w.heap.size w' v (l.map (·.s))∧Below w.heap.size w w':=by
 obtain⟨D0,hown,hp⟩:=h.keys hl h0
 have hsz:=MpT.size hown
 have hbl:=hown.lt
 refine(callsIn_wide (n:=5)).1 ?_
 have hseq:SeqGives Fence.wide 2 Tryz.prog 113 #[.pointer (some ⟨w.heap.size,0,none⟩)] encStr (fun ss=>ss.Perm (strKeys D0)) (Maps.size D0) (w.alloc (.cells #[.map (some b)] 71)):=
  AnyZ.keys_gives (ρ:=YtdnjddpfcgginaaGreat.keysT_ren) { YtdnjddpfcgginaaGreat.keysT with} Fence.wide _ trivial rfl (by omega) w.heap.size b n D0 (R:=Z20) _ (by simp) (by simp) (by
   obtain⟨es,clock,hb,Ft,hs,hD⟩:=hown
   exact⟨es,clock,(Below.heap_alloc _ _ b hbl).trans hb,Ft,hs,hD⟩)
 have cS:=AnyZ.sorted_in YtdnjddpfcgginaaGreat.sortedT Fence.wide 5 trivial trivial trivial trivial rfl (by omega) (Zbj _) (enters_of Tryz.func112 (by kernel_rfl) rfl) 113 #[.pointer (some ⟨w.heap.size,0,none⟩)] trivial (enters_of Tryz.func113 (by kernel_rfl) rfl) _ _ (by unfold maxLen;omega) (by omega) _ hseq
 change CallsIn _ _ Tryz.prog 79 _ _ _ at cS
 refine cS.mono ?_
 rintro e w' ⟨v,ss,rfl,hS,hrow,hnil,hb⟩
 have e1:ss.mergeSort (fun x y=>decide (x≤y))=l.map (·.s):=(mergeSort_of_perm (hS.trans hp.symm)).trans (Zcj hl)
 have e2:ss.length=(l.map (·.s)).length:=(hS.trans hp.symm).length_eq
 have b0:Below w.heap.size w (w.alloc (.cells #[.map (some b)] 71)):=(Below.refl _ w).alloc (Nat.le_refl _) _
 have e3:(l.map (·.s)).map encStr=(l.map (·.s)).map tV:=rfl
 rw [e1,e2,e3]at hrow
 exact⟨v,rfl,⟨Z4k hrow,fun r hr=>by have:=(hrow.lt r hr).1;have:=b0.size;omega⟩,Z00q b0 hb (Nat.le_refl _)⟩
set_option maxRecDepth 100000 in
set_option maxHeartbeats 2000000 in
theorem Z8z (w:World):
 Calls Tryz.prog 79 #[.func (.func 113) #[] #[.pointer (some ⟨w.heap.size,0,none⟩)]] (w.alloc (.cells #[.map none] 71)) fun e w'=>∃ v,e= .returned v∧OwT w.heap.size w' v []∧Below w.heap.size w w':=by
 refine(callsIn_wide (n:=5)).1 ?_
 have hseq:SeqGives Fence.wide 2 Tryz.prog 113 #[.pointer (some ⟨w.heap.size,0,none⟩)] encStr (fun ss:List (List UInt8)=>ss= []) 0 (w.alloc (.cells #[.map none] 71)):=
  AnyZ.keys_gives_nil (ρ:=YtdnjddpfcgginaaGreat.keysT_ren) { YtdnjddpfcgginaaGreat.keysT with} Fence.wide _ trivial rfl w.heap.size _ (by simp) (by simp)
 have cS:=AnyZ.sorted_in YtdnjddpfcgginaaGreat.sortedT Fence.wide 5 trivial trivial trivial trivial rfl (by omega) (Zbj _) (enters_of Tryz.func112 (by kernel_rfl) rfl) 113 #[.pointer (some ⟨w.heap.size,0,none⟩)] trivial (enters_of Tryz.func113 (by kernel_rfl) rfl) _ 0 (Nat.zero_le _) (by omega) _ hseq
 change CallsIn _ _ Tryz.prog 79 _ _ _ at cS
 refine cS.mono ?_
 rintro e w' ⟨v,ss,rfl,hS,hrow,hnil,hb⟩
 subst hS
 have b0:Below w.heap.size w (w.alloc (.cells #[.map none] 71)):=(Below.refl _ w).alloc (Nat.le_refl _) _
 refine⟨v,rfl,?_,Z00q b0 hb (Nat.le_refl _)⟩
 rw [hnil.2 rfl]
 exact OwT.none _
set_option maxRecDepth 100000
theorem uMn:Tryz.prog.underlying 68=some (.map 3 74):=by kernel_rfl
theorem zPn (w:World):(zeroValue 74).run Tryz.prog w= .ok (.pointer none) w:=by kernel_rfl
def OwD (w:World) (v:Value) (d:List Int):Prop:=w.ownsRow 0 5 1 v d.length (d.map (Value.int .u8))
section
variable {w w' : World} {v : Value} {d : List Int} {F : Nat → Prop}
theorem OwD.nil (w:World):OwD w (.slice none 0 0) []:=⟨rfl, .inl ⟨rfl,rfl⟩⟩
theorem OwD.step (h:OwD w v d) (k:Stp F w w') (hF:∀ r,v.ownBlock=some r→¬F r):OwD w' v d:=Z4j h k hF
theorem OwD.later (h:OwD w v d) (k:Below w.heap.size w w'):OwD w' v d:=Z5z h k
theorem OwD.shape (h:OwD w v d):∃ s:Sv,v=s.v∧s.n=d.length:=by
 rcases h.2 with⟨rfl,h2⟩ | ⟨g,cap,cur,rfl,_⟩
 · exact⟨⟨none,0,0⟩,rfl,h2.symm⟩
 · exact⟨⟨_,_,_⟩,rfl,rfl⟩
end
def mo (k:Int) (b:Nat):Option Nat:=if k=2 then some b else none
def ndC (y:Nd) (s:Sv) (b:Nat):List Value:= [.int .i64 y.k, .int .i64 y.ln,s.v, .map (mo y.k b)]
def nF (q:Int→Nat) (Z:Tz):Int→Option Value:=fun i=>if (Z.nd i).k=0 then none else some (.pointer (some ⟨q i,0,none⟩))
def trC (mb ob:Nat) (Z:Tz):List Value:= [.map (some mb), .int .i64 (Z.top - 1), .pointer (some ⟨ob,0,none⟩)]
structure Tw (w:World) (tg:Nat→Nat) (g mb ob:Nat) (q nb:Int→Nat) (sv:Int→Sv) (B:Nat) (Z:Tz):Prop where
 low:∀ x,tg x≠0→x < w.heap.size
 lv:∀ i,(Z.nd i).k≠0→1≤i
 tr:Cs w g (trC mb ob Z)
 tt:tg g=1
 mp:MpI Tryz.prog 3 w mb (nF q Z)
 mt:tg mb=2
 fd:∃ U,Fd w U ob Z.t∧∀ x,U x→tg x=3
 nd:∀ i,(Z.nd i).k≠0→tg (q i)=3 * i.toNat+4∧Cs w (q i) (ndC (Z.nd i) (sv i) (nb i))
 dt:∀ i,(Z.nd i).k≠0→OwD w (sv i).v (Z.nd i).d∧∀ r,(sv i).v.ownBlock=some r→tg r=3 * i.toNat+5
 nm:∀ i,(Z.nd i).k=2→tg (nb i)=3 * i.toNat+6∧MpT w (nb i) B (Z.nd i).nm
section
variable {w w' : World} {tg tg' : Nat → Nat} {g mb ob B B' : Nat} {q nb : Int → Nat} {sv : Int → Sv} {Z : Tz} {F : Nat → Prop} {i : Int}
theorem Tw.step (h:Tw w tg g mb ob q nb sv B Z) (k:Stp F w w') (hF:∀ x,tg x≠0→¬F x):Tw w' tg g mb ob q nb sv B Z:=by
 have t1:=h.tt
 have t2:=h.mt
 refine⟨fun x hx=>Nat.lt_of_lt_of_le (h.low x hx) k.size,h.lv,h.tr.step k (hF g (by omega)),t1,h.mp.step k (hF mb (by omega)),t2,?_,fun i hi=>?_,fun i hi=>?_,fun i hi=>?_⟩
 · obtain⟨U,h1,h2⟩:=h.fd
   exact⟨U,h1.step k (fun x hx=>hF x (by have:=h2 x hx;omega)),h2⟩
 · obtain⟨h1,h2⟩:=h.nd i hi;exact⟨h1,h2.step k (hF _ (by omega))⟩
 · obtain⟨h1,h2⟩:=h.dt i hi;exact⟨h1.step k (fun r hr=>hF r (by have:=h2 r hr;omega)),h2⟩
 · obtain⟨h1,h2⟩:=h.nm i hi;exact⟨h1,h2.step k (hF _ (by omega))⟩
theorem Tw.later (h:Tw w tg g mb ob q nb sv B Z) (k:Below w.heap.size w w'):Tw w' tg g mb ob q nb sv B Z:=h.step (Stp.of_below k (fun _=>False)) (fun _ _=>id)
theorem Tw.more (h:Tw w tg g mb ob q nb sv B Z) (hB:B≤B'):Tw w tg g mb ob q nb sv B' Z:=
 ⟨h.low,h.lv,h.tr,h.tt,h.mp,h.mt,h.fd,h.nd,h.dt,fun i hi=>by obtain⟨h1,h2⟩:=h.nm i hi;exact⟨h1,h2.mono hB⟩⟩
theorem Tw.up (h:Tw w tg g mb ob q nb sv B Z) (hl:1≤i∧i.toNat < Z.N.length) (y:Nd) (s1:Sv) (hB:B≤B') (k:Stp F w w') (hF:∀ x,F x→tg x=2∨tg x=3 * i.toNat+4∨tg x=3 * i.toNat+5∨tg x=3 * i.toNat+6)
 (ht:∀ x,x < w.heap.size→tg' x=tg x) (hlow:∀ x,tg' x≠0→x < w'.heap.size)
 (hmp:MpI Tryz.prog 3 w' mb (nF q (Z.up i y)))
 (hnd:y.k≠0→tg (q i)=3 * i.toNat+4∧Cs w' (q i) (ndC y s1 (nb i)))
 (hdt:y.k≠0→OwD w' s1.v y.d∧∀ r,s1.v.ownBlock=some r→tg' r=3 * i.toNat+5)
 (hnm:y.k=2→tg (nb i)=3 * i.toNat+6∧MpT w' (nb i) B' y.nm) (hq:y.k≠0→q i < w.heap.size) (hb:y.k=2→nb i < w.heap.size):
 Tw w' tg' g mb ob q nb (fun j=>if j=i then s1 else sv j) B' (Z.up i y):=by
 have t1:=h.tt
 have t2:=h.mt
 have N:=fun j=>Z24 (x:=y) hl.2 j
 have lt:∀ x,tg x≠0→tg' x=tg x:=fun x hx=>ht x (h.low x hx)
 have lv':∀ j,((Z.up i y).nd j).k≠0→1≤j:=fun j hj=>by
  rw [N j]at hj
  by_cases e:j.toNat=i.toNat
  · omega
  · rw [if_neg e]at hj;exact h.lv j hj
 have eqi:∀ j:Int,j.toNat=i.toNat→j=i:=fun j e=>by omega
 have off:∀ j:Int,j.toNat≠i.toNat→∀ c,(c=4∨c=5∨c=6)→∀ x,tg x=3 * j.toNat+c→¬F x:=fun j hj c hc x hx hFx=>by
  have:=hF x hFx
  omega
 refine⟨hlow,lv',?_,by rw [lt g (by omega)];exact t1,hmp,by rw [lt mb (by omega)];exact t2,?_,fun j hj=>?_,fun j hj=>?_,fun j hj=>?_⟩
 · have:=h.tr.step k (fun hFg=>by have:=hF g hFg;omega)
   unfold trC Tz.top at this ⊢
   rw [up_len];exact this
 · obtain⟨U,h1,h2⟩:=h.fd
   exact⟨U,h1.step k (fun x hx hFx=>by have:=h2 x hx;have:=hF x hFx;omega),fun x hx=>by rw [lt x (by have:=h2 x hx;omega)];exact h2 x hx⟩
 · have hj1:=lv' j hj
   rw [N j]at hj ⊢
   by_cases e:j.toNat=i.toNat
   · rw [if_pos e]at hj ⊢
     obtain rfl:=eqi j e
     obtain⟨h1,h2⟩:=hnd hj
     simp only [if_true]
     exact⟨by rw [ht _ (hq hj)];exact h1,h2⟩
   · rw [if_neg e]at hj ⊢
     obtain⟨h1,h2⟩:=h.nd j hj
     have e2:¬j=i:=fun w=>e (by rw [w])
     simp only [if_neg e2]
     exact⟨by rw [lt _ (by omega)];exact h1,h2.step k (off j e 4 (by omega) _ h1)⟩
 · have hj1:=lv' j hj
   rw [N j]at hj ⊢
   by_cases e:j.toNat=i.toNat
   · rw [if_pos e]at hj ⊢
     obtain rfl:=eqi j e
     obtain⟨h1,h2⟩:=hdt hj
     simp only [if_true]
     exact⟨h1,h2⟩
   · rw [if_neg e]at hj ⊢
     obtain⟨h1,h2⟩:=h.dt j hj
     have e2:¬j=i:=fun w=>e (by rw [w])
     simp only [if_neg e2]
     exact⟨h1.step k (fun r hr=>off j e 5 (by omega) r (h2 r hr)),fun r hr=>by rw [lt r (by have:=h2 r hr;omega)];exact h2 r hr⟩
 · have hj1:=lv' j (by rw [hj];decide)
   rw [N j]at hj ⊢
   by_cases e:j.toNat=i.toNat
   · rw [if_pos e]at hj ⊢
     obtain rfl:=eqi j e
     obtain⟨h1,h2⟩:=hnm hj
     exact⟨by rw [ht _ (hb hj)];exact h1,h2⟩
   · rw [if_neg e]at hj ⊢
     obtain⟨h1,h2⟩:=h.nm j hj
     exact⟨by rw [lt _ (by omega)];exact h1,(h2.step k (off j e 6 (by omega) _ h1)).mono hB⟩
theorem Zgc (hl:1≤i∧i.toNat < Z.N.length) (y:Nd) (hy:y.k=(Z.nd i).k):nF q (Z.up i y)=nF q Z:=by
 funext j
 unfold nF
 rw [Z24 hl.2 j]
 by_cases e:j.toNat=i.toNat
 · rw [if_pos e]
   have e2:Z.nd j=Z.nd i:=by unfold Tz.nd;rw [e]
   rw [hy,e2]
 · rw [if_neg e]
theorem nF_f (hl:1≤i∧i.toNat < Z.N.length) {a:Int} {b:List Int} {c:List Ent} :nF q (Z.up i ⟨(Z.nd i).k,a,b,c⟩)=nF q Z:=Zgc hl _ rfl
theorem Zdl (hl:1≤i∧i.toNat < Z.N.length):nF q (Z.up i Nd.zero)=upd (nF q Z) i none:=by
 funext j
 unfold nF upd
 rw [Z24 hl.2 j]
 by_cases e:j=i
 · subst e;rw [if_pos rfl,if_pos rfl];simp [Nd.zero]
 · have e2:¬j.toNat=i.toNat:=fun w=>e (by omega)
   rw [if_neg e2,if_neg e]
theorem Tw.names (h:Tw w tg g mb ob q nb sv B Z) (hd:(Z.nd i).k=2) (hi:i.toNat < Z.N.length) {l:List Ent} (hB:B≤B') (hM:MpT w' (nb i) B' l) (k:Stp (fun x=>x=nb i) w w'):Tw w' tg g mb ob q nb sv B' (Z.up i ⟨(Z.nd i).k,(Z.nd i).ln,(Z.nd i).d,l⟩):=by
 have hk:(Z.nd i).k≠0:=by rw [hd];decide
 have hl:=h.lv i hk
 obtain⟨n1,n2⟩:=h.nd i hk
 obtain⟨d1,d2⟩:=h.dt i hk
 obtain⟨m1,m2⟩:=h.nm i hd
 have :=h.up (tg':=tg) ⟨hl,hi⟩ ⟨(Z.nd i).k,(Z.nd i).ln,(Z.nd i).d,l⟩ (sv i) hB k (fun x e=>by subst e;omega) (fun _ _=>rfl) (fun x hx=>Nat.lt_of_lt_of_le (h.low x hx) k.size)
  (by rw [nF_f ⟨hl,hi⟩];exact h.mp.step k (fun e=>by have:=h.mt;rw [e]at this;omega))
  (fun _=>⟨n1,n2.step k (fun e=>by rw [e]at n1;omega)⟩) (fun _=>⟨d1.step k (fun r hr e=>by have:=d2 r hr;rw [e]at this;omega),d2⟩) (fun _=>⟨m1,hM⟩) (fun _=>n2.lt) (fun _=>m2.lt)
 have e:(fun j=>if j=i then sv i else sv j)=sv:=by funext j;by_cases e:j=i;rw [if_pos e,e];rw [if_neg e]
 rwa [e]at this
theorem Tw.links (h:Tw w tg g mb ob q nb sv B Z) (hk:(Z.nd i).k≠0) (hi:i.toNat < Z.N.length) (y:Int):Tw (w.setCell ⟨q i,1,none⟩ (.int .i64 y)) tg g mb ob q nb sv B (Z.up i ⟨(Z.nd i).k,y,(Z.nd i).d,(Z.nd i).nm⟩):=by
 have hl:=h.lv i hk
 obtain⟨n1,n2⟩:=h.nd i hk
 obtain⟨d1,d2⟩:=h.dt i hk
 have k:Stp (fun x=>x=q i) w (w.setCell ⟨q i,1,none⟩ (.int .i64 y)):=(Stp.refl (fun x=>x=q i) w).setCell (p:=⟨q i,1,none⟩) (.inl rfl) _
 have :=h.up (tg':=tg) ⟨hl,hi⟩ ⟨(Z.nd i).k,y,(Z.nd i).d,(Z.nd i).nm⟩ (sv i) (Nat.le_refl B) k (fun x e=>by subst e;omega) (fun _ _=>rfl) (fun x hx=>Nat.lt_of_lt_of_le (h.low x hx) k.size)
  (by rw [nF_f ⟨hl,hi⟩];exact h.mp.step k (fun e=>by have:=h.mt;rw [e]at this;omega))
  (fun _=>⟨n1,n2.set 1 _ rfl⟩) (fun _=>⟨d1.step k (fun r hr e=>by have:=d2 r hr;rw [e]at this;omega),d2⟩)
  (fun e=>by obtain⟨m1,m2⟩:=h.nm i e;exact⟨m1,m2.step k (fun e=>by rw [e]at m1;omega)⟩) (fun _=>n2.lt) (fun e=>(h.nm i e).2.lt)
 have e:(fun j=>if j=i then sv i else sv j)=sv:=by funext j;by_cases e:j=i;rw [if_pos e,e];rw [if_neg e]
 rwa [e]at this
theorem Tw.less (h:Tw w tg g mb ob q nb sv B Z) (hl:1≤i∧i.toNat < Z.N.length) (hM:MpI Tryz.prog 3 w' mb (upd (nF q Z) i none)) (k:Stp (fun x=>x=mb) w w'):Tw w' tg g mb ob q nb (fun j=>if j=i then Sv.nil else sv j) B (Z.up i Nd.zero):=by
 refine h.up (tg':=tg) hl Nd.zero Sv.nil (Nat.le_refl B) k (fun x e=>by subst e;have:=h.mt;omega) (fun _ _=>rfl) (fun x hx=>Nat.lt_of_lt_of_le (h.low x hx) k.size) (by rw [Zdl hl];exact hM)
  (fun e=>absurd rfl e) (fun e=>absurd rfl e) (fun e=>by cases e) (fun e=>absurd rfl e) (fun e=>by cases e)
theorem Tw.bytes (h:Tw w tg g mb ob q nb sv B Z) (hk:(Z.nd i).k≠0) (hi:i.toNat < Z.N.length) {d:List Int} (hO:OwD w' (sv i).v d) (k:Stp (fun x=>(sv i).v.ownBlock=some x) w w'):Tw w' tg g mb ob q nb sv B (Z.dat i d):=by
 have hl:=h.lv i hk
 obtain⟨n1,n2⟩:=h.nd i hk
 obtain⟨d1,d2⟩:=h.dt i hk
 have :=h.up (tg':=tg) ⟨hl,hi⟩ ⟨(Z.nd i).k,(Z.nd i).ln,d,(Z.nd i).nm⟩ (sv i) (Nat.le_refl B) k (fun x e=>by have:=d2 x e;omega) (fun _ _=>rfl) (fun x hx=>Nat.lt_of_lt_of_le (h.low x hx) k.size)
  (by rw [nF_f ⟨hl,hi⟩];exact h.mp.step k (fun e=>by have:=d2 _ e;have:=h.mt;omega))
  (fun _=>⟨n1,n2.step k (fun e=>by have:=d2 _ e;omega)⟩) (fun _=>⟨hO,d2⟩)
  (fun e=>by obtain⟨m1,m2⟩:=h.nm i e;exact⟨m1,m2.step k (fun e=>by have:=d2 _ e;omega)⟩) (fun _=>n2.lt) (fun e=>(h.nm i e).2.lt)
 have e:(fun j=>if j=i then sv i else sv j)=sv:=by funext j;by_cases e:j=i;rw [if_pos e,e];rw [if_neg e]
 rwa [e]at this
theorem Tw.cut (h:Tw w tg g mb ob q nb sv B Z) (hk:(Z.nd i).k≠0) (hi:i.toNat < Z.N.length) {d:List Int} {s1:Sv} (hO:OwD w s1.v d) (hN:∀ r,s1.v.ownBlock=some r→tg r=0):
 Tw (w.setCell ⟨q i,2,none⟩ s1.v) (fun x=>if s1.v.ownBlock=some x then 3 * i.toNat+5 else tg x) g mb ob q nb (fun j=>if j=i then s1 else sv j) B (Z.dat i d):=by
 have hl:=h.lv i hk
 obtain⟨n1,n2⟩:=h.nd i hk
 have k:Stp (fun x=>x=q i) w (w.setCell ⟨q i,2,none⟩ s1.v):=(Stp.refl (fun x=>x=q i) w).setCell (p:=⟨q i,2,none⟩) (.inl rfl) _
 have hlt:∀ r,s1.v.ownBlock=some r→r < w.heap.size:=fun r hr=>(hO.lt r hr).2
 -- the marks,laid first
 have h2:Tw w (fun x=>if s1.v.ownBlock=some x then 3 * i.toNat+5 else tg x) g mb ob q nb sv B Z:=by
  have same:∀ x,tg x≠0→(if s1.v.ownBlock=some x then 3 * i.toNat+5 else tg x)=tg x:=fun x hx=>by
   rw [if_neg (fun e=>hx (hN x e))]
  refine⟨fun x hx=>?_,h.lv,h.tr,by rw [same g (by have:=h.tt;omega)];exact h.tt,h.mp,by rw [same mb (by have:=h.mt;omega)];exact h.mt,?_,fun j hj=>?_,fun j hj=>?_,fun j hj=>?_⟩
  · by_cases e:s1.v.ownBlock=some x
    · exact hlt x e
    · rw [if_neg e]at hx;exact h.low x hx
  · obtain⟨U,u1,u2⟩:=h.fd
    exact⟨U,u1,fun x hx=>by rw [same x (by have:=u2 x hx;omega)];exact u2 x hx⟩
  · obtain⟨u1,u2⟩:=h.nd j hj;exact⟨by rw [same _ (by omega)];exact u1,u2⟩
  · obtain⟨u1,u2⟩:=h.dt j hj;exact⟨u1,fun r hr=>by rw [same r (by have:=u2 r hr;omega)];exact u2 r hr⟩
  · obtain⟨u1,u2⟩:=h.nm j hj;exact⟨by rw [same _ (by omega)];exact u1,u2⟩
 obtain⟨n3,n4⟩:=h2.nd i hk
 refine h2.up ⟨hl,hi⟩ ⟨(Z.nd i).k,(Z.nd i).ln,d,(Z.nd i).nm⟩ s1 (Nat.le_refl B) k (fun x e=>by subst e;omega) (fun _ _=>rfl) (fun x hx=>Nat.lt_of_lt_of_le (h2.low x hx) k.size)
  (by rw [nF_f ⟨hl,hi⟩];exact h.mp.step k (fun e=>by have:=h.mt;rw [e]at this;omega))
  (fun _=>⟨n3,n2.set 2 _ rfl⟩) (fun _=>⟨hO.step k (fun r hr e=>by have:=hN r hr;rw [e]at this;omega),fun r hr=>by rw [if_pos hr]⟩)
  (fun e=>by obtain⟨m1,m2⟩:=h2.nm i e;exact⟨m1,m2.step k (fun e=>by rw [e]at m1;omega)⟩) (fun _=>n2.lt) (fun e=>(h.nm i e).2.lt)
theorem Tw.table (h:Tw w tg g mb ob q nb sv B Z) {U U':Nat→Prop} {t:FT} (hU:∀ x,U x→tg x=3) (hF:Fd w' U' ob t) (k:Stp U w w') (hG:Grew U U' w w'):∃ tg',Tw w' tg' g mb ob q nb sv B (Z.fds t)∧(∀ x,x < w.heap.size→tg' x=tg x)∧∀ x,tg' x≠0→tg x≠0∨w.heap.size≤x:=by
 classical
 refine⟨fun x=>if U' x∧w.heap.size≤x then 3 else tg x,?_,fun x hx=>by dsimp only;rw [if_neg (fun e=>by omega)],fun x hx=>?_⟩
 · have same:∀ x,tg x≠0→(if U' x∧w.heap.size≤x then 3 else tg x)=tg x:=fun x hx=>by
    rw [if_neg (fun e=>by have:=h.low x hx;omega)]
   have off:∀ x,tg x≠3→¬U x:=fun x hx e=>hx (hU x e)
   refine⟨fun x hx=>?_,h.lv,h.tr.step k (off g (by have:=h.tt;omega)),by rw [same g (by have:=h.tt;omega)];exact h.tt,h.mp.step k (off mb (by have:=h.mt;omega)),by rw [same mb (by have:=h.mt;omega)];exact h.mt,⟨U',hF,fun x hx=>?_⟩,fun j hj=>?_,fun j hj=>?_,fun j hj=>?_⟩
   · by_cases e:U' x∧w.heap.size≤x
     · exact hF.low x e.1
     · rw [if_neg e]at hx;exact Nat.lt_of_lt_of_le (h.low x hx) k.size
   · rcases hG x hx with e | e
     · have:=hU x e
       rw [same x (by omega)];exact this
     · rw [if_pos ⟨hx,e.1⟩]
   · obtain⟨u1,u2⟩:=h.nd j hj;exact⟨by rw [same _ (by omega)];exact u1,u2.step k (off _ (by omega))⟩
   · obtain⟨u1,u2⟩:=h.dt j hj;exact⟨u1.step k (fun r hr=>off r (by have:=u2 r hr;omega)),fun r hr=>by rw [same r (by have:=u2 r hr;omega)];exact u2 r hr⟩
   · obtain⟨u1,u2⟩:=h.nm j hj;exact⟨by rw [same _ (by omega)];exact u1,u2.step k (off _ (by omega))⟩
 · by_cases e:U' x∧w.heap.size≤x
   · exact .inr e.2
   · dsimp only at hx;rw [if_neg e]at hx;exact .inl hx
end
def Tx (w:World) (U:Nat→Prop) (g:Nat) (q:Int→Nat) (B:Nat) (Z:Tz):Prop:=∃ tg mb ob nb sv,Tw w tg g mb ob q nb sv B Z∧∀ x,U x↔tg x≠0
def TxG (U:Nat→Prop) (g:Nat) (q:Int→Nat) (B:Nat) (Z:Tz) (w w':World):Prop:=∃ U',Tx w' U' g q B Z∧Stp U w w'∧Grew U U' w w'
section
variable {w w' w'' : World} {g B B' : Nat} {U U' F : Nat → Prop} {q : Int → Nat} {Z Z' : Tz}
theorem Tx.step (h:Tx w U g q B Z) (k:Stp F w w') (hF:∀ x,U x→¬F x):Tx w' U g q B Z:=by
 obtain⟨tg,mb,ob,nb,sv,h1,h2⟩:=h
 exact⟨tg,mb,ob,nb,sv,h1.step k (fun x hx=>hF x ((h2 x).2 hx)),h2⟩
theorem Tx.later (h:Tx w U g q B Z) (k:Below w.heap.size w w'):Tx w' U g q B Z:=h.step (Stp.of_below k (fun _=>False)) (fun _ _=>id)
theorem Tx.low (h:Tx w U g q B Z):∀ x,U x→x < w.heap.size:=by
 obtain⟨tg,mb,ob,nb,sv,h1,h2⟩:=h
 exact fun x hx=>h1.low x ((h2 x).1 hx)
theorem TxG.refl (h:Tx w U g q B Z) (hb:Below w.heap.size w w'):TxG U g q B Z w w':=⟨U,h.later hb,Stp.of_below hb U,Grew.refl _ _ _⟩
theorem TxG.behind (hb:Below w.heap.size w w') (hU:∀ x,U x→x < w.heap.size) (h:TxG U g q B Z w' w''):TxG U g q B Z w w'':=by
 obtain⟨U',a1,a2,a3⟩:=h
 refine⟨U',a1,(Stp.of_below hb U).trans a2,fun x hx=>?_⟩
 rcases a3 x hx with e | e
 · exact .inl e
 · exact .inr ⟨Nat.le_trans hb.size e.1,e.2⟩
theorem Z4m {tg tg':Nat→Nat} {mb ob:Nat} {nb:Int→Nat} {sv:Int→Sv} (hU:∀ x,U x↔tg x≠0) (h':Tw w' tg' g mb ob q nb sv B Z') (k:Stp U w w') (hG:∀ x,tg' x≠0→tg x≠0∨w.heap.size≤x):TxG U g q B Z' w w':=
 ⟨fun x=>tg' x≠0,⟨tg',mb,ob,nb,sv,h',fun x=>Iff.rfl⟩,k,fun x hx=>by
   rcases hG x hx with e | e
   · exact .inl ((hU x).2 e)
   · exact .inr ⟨e,h'.low x hx⟩⟩
end
set_option maxRecDepth 100000
section
variable {w w' : World} {tg : Nat → Nat} {g mb ob B m n : Nat} {q nb : Int → Nat} {sv : Int → Sv} {Z : Tz} {F : Nat → Prop} {i : Int} {x : Int → Int}
theorem Z12 (hz:Z.okD m n x) (hm:m≤1000) (hk:(Z.nd i).k≠0):wfi i:=by
 have h1:=hz.live hk
 have h2:=hz.few
 exact Z2b (by omega)
theorem Tw.look (h:Tw w tg g mb ob q nb sv B Z) (hk:(Z.nd i).k≠0) (hi:wfi i):(Instr.lookup 68 (.map (some mb)) (.int .i64 i) false).run Tryz.prog w= .ok (.pointer (some ⟨q i,0,none⟩)) w:=by
 rw [h.mp.look Z7e uMn (zPn w) hi]
 unfold nF
 rw [if_neg hk];rfl
theorem Tw.lookN (h:Tw w tg g mb ob q nb sv B Z) (hk:(Z.nd i).k=0) (hi:wfi i):(Instr.lookup 68 (.map (some mb)) (.int .i64 i) false).run Tryz.prog w= .ok (.pointer none) w:=by
 rw [h.mp.look Z7e uMn (zPn w) hi]
 unfold nF
 rw [if_pos hk];rfl
theorem Tw.c0 (h:Tw w tg g mb ob q nb sv B Z):w.cell? ⟨g,0,none⟩=some (.map (some mb)):=h.tr.cell 0 _ rfl
theorem Tw.c1 (h:Tw w tg g mb ob q nb sv B Z):w.cell? ⟨g,1,none⟩=some (.int .i64 (Z.top - 1)):=h.tr.cell 1 _ rfl
theorem Tw.c2 (h:Tw w tg g mb ob q nb sv B Z):w.cell? ⟨g,2,none⟩=some (.pointer (some ⟨ob,0,none⟩)):=h.tr.cell 2 _ rfl
theorem Tw.n0 (h:Tw w tg g mb ob q nb sv B Z) (hk:(Z.nd i).k≠0):w.cell? ⟨q i,0,none⟩=some (.int .i64 (Z.nd i).k):=(h.nd i hk).2.cell 0 _ rfl
theorem Tw.n1 (h:Tw w tg g mb ob q nb sv B Z) (hk:(Z.nd i).k≠0):w.cell? ⟨q i,1,none⟩=some (.int .i64 (Z.nd i).ln):=(h.nd i hk).2.cell 1 _ rfl
theorem Tw.n2 (h:Tw w tg g mb ob q nb sv B Z) (hk:(Z.nd i).k≠0):w.cell? ⟨q i,2,none⟩=some (sv i).v:=(h.nd i hk).2.cell 2 _ rfl
theorem Tw.n3 (h:Tw w tg g mb ob q nb sv B Z) (hd:(Z.nd i).k=2):w.cell? ⟨q i,3,none⟩=some (.map (some (nb i))):=by
 have:=(h.nd i (by rw [hd];decide)).2.cell 3 _ rfl
 rw [this];unfold mo;rw [if_pos hd]
theorem Tw.n3' (h:Tw w tg g mb ob q nb sv B Z) (hk:(Z.nd i).k≠0) (hd:(Z.nd i).k≠2):w.cell? ⟨q i,3,none⟩=some (.map none):=by
 have:=(h.nd i hk).2.cell 3 _ rfl
 rw [this];unfold mo;rw [if_neg hd]
end
theorem Z1s {w:World} {U:Nat→Prop} {g B m n:Nat} {q:Int→Nat} {Z:Tz} {x:Int→Int} (h:Tx w U g q B Z) (hz:Z.okD m n x) (hm:m≤1000) {i:Int} (hk:(Z.nd i).k≠0):
 Calls Tryz.prog 104 #[.pointer (some ⟨g,0,none⟩), .int .i64 i] w fun e w'=>e= .returned (.bool (decide ((Z.nd i).k=2)))∧w=w':=by
 obtain⟨tg,mb,ob,nb,sv,H,hU⟩:=h
 have c0:=H.c0
 have lo:=H.look hk (Z12 hz hm hk)
 have n0:=H.n0 hk
 generalize (Z.nd i).k=K at *
 clear hz H hU
 go_enter Tryz.func104,Tryz.ntmps104
 go_wp2
 go_returns
 exact⟨rfl,rfl⟩
theorem Z70 {w:World} {U:Nat→Prop} {g B m n:Nat} {q:Int→Nat} {Z:Tz} {x:Int→Int} (h:Tx w U g q B Z) (hz:Z.okD m n x) (hm:m≤1000) {i:Int} (hk:(Z.nd i).k≠0):
 Calls Tryz.prog 101 #[.pointer (some ⟨g,0,none⟩), .int .i64 i] w fun e w'=>e= .returned (.tuple #[])∧TxG U g q B (Z.gone i) w w':=by
 have h0:=h
 obtain⟨tg,mb,ob,nb,sv,H,hU⟩:=h
 have c0:=H.c0
 have c2:=H.c2
 have hwf:=Z12 hz hm hk
 have lo:=H.look hk hwf
 have n1:=H.n1 hk
 obtain⟨Uo,hFd,hUo⟩:=H.fd
 have hC:=Z4p hFd i
 by_cases e1:(Z.nd i).ln=0
 · rw [e1]at n1
   by_cases e2:fdCt Z.t i 8=0
   · have eg:Z.gone i=Z.up i Nd.zero:=by unfold Tz.gone;rw [if_pos ⟨e1,e2⟩]
     rw [eg]
     rw [e2]at hC
     have t0:Hid True:=trivial
     go_enter Tryz.func101,Tryz.ntmps101
     go_wp2_with (first
      | (go_at_call 132;refine hC.mono ?_;rintro e w1 ⟨rfl,b1⟩;clear hC
         have H1:=H.later b1
         have d0:=H1.c0)
      | (refine Zcz (by rfl) _ _ (by rfl) (by rfl) (by rfl) (fun ty=>H1.mp.drop Z7e uMn hwf ty) ?_;rintro w2 ⟨m2,s2⟩))
     first | go_end0 | refine bodyPost_ret (results_none rfl _ _ _) rfl ?_
     have k2:=Z3p s2
     have H2:=H1.less (hz.live hk) m2 k2
     refine⟨rfl,Z4m hU H2 ((Stp.of_below b1 U).next k2 (fun y e=>?_)) (fun y hy=> .inl hy)⟩
     subst e;exact .inl ((hU _).2 (by have:=H.mt;omega))
   · have eg:Z.gone i=Z:=by unfold Tz.gone;rw [if_neg (fun e=>e2 e.2)]
     rw [eg]
     generalize fdCt Z.t i 8=c at *
     go_enter Tryz.func101,Tryz.ntmps101
     go_wp2_with (go_at_call 132;refine hC.mono ?_;rintro e w1 ⟨rfl,b1⟩)
     first | go_end0 | refine bodyPost_ret (results_none rfl _ _ _) rfl ?_
     exact⟨rfl,TxG.refl h0 b1⟩
 · have eg:Z.gone i=Z:=by unfold Tz.gone;rw [if_neg (fun e=>e1 e.1)]
   rw [eg]
   generalize (Z.nd i).ln=c at *
   go_enter Tryz.func101,Tryz.ntmps101
   go_wp2
   first | go_end0 | refine bodyPost_ret (results_none rfl _ _ _) rfl ?_
   exact⟨rfl,TxG.refl h0 (Below.refl _ _)⟩
set_option maxRecDepth 100000
def spC (d:Option Nat) (s:List UInt8) (i:Int):List Value:= [.pointer (d.map fun b=>⟨b,0,none⟩), .string (str s), .int .i64 i]
theorem Z4l (d:Option Nat) (s:List UInt8) (i:Int):∀ v ∈ spC d s i,v.oneCell'=true:=by
 intro v hv;unfold spC at hv;simp at hv;rcases hv with rfl | rfl | rfl<;>rfl
theorem Z1f:Srt 145 3 (spC none [] 0):=
 ⟨⟨_,Tryz.underlying145,rfl⟩,by kernel_rfl,fun w=>(zero_of_info (v:= .agg (spC none [] 0).toArray) (n:=3) (by kernel_rfl)).1 w,rfl,Z4l _ _ _⟩
section
variable {ops : Array Oper} {rest : List Oper} {o : Oper} {a : Act} {w : World} {Q : Exit → Act → World → Prop}
theorem Zd5 (hw:Region.wanted o (yielded ops a.tmps)=true) (m x y:Operand) (ho:o.op= .mapUpdate 71 m x y) (b n:Nat) (l:List Ent) (hm:a.eval m= .map (some b)) (s:List UInt8) (hx:a.eval x= .string (str s)) (i:Int) (hy:a.eval y= .int .i64 i) (hM:MpT w b n l) (hl:Srd l) (hn:n < 100000) (hs:s.length≤maxLen) (hi:i≠0)
 (h:∀ w',MpT w' b (n+1) (ptL l s i)→Stp (fun x=>x=b) w w'→wpList Tryz.prog ops Q rest (a.put o.dst undef) w'):wpList Tryz.prog ops Q (o::rest) a w:=by
 obtain⟨w',r1,r2,r3⟩:=hM.store hl hn hs hi
 refine Z4g hw _ ?_ (h w' r2 r3)
 simp [execOp,ho,hm,hx,hy,r1]
theorem Zcy {b:Nat} {s:List UInt8} {R:World→Prop} (hw:Region.wanted o (yielded ops a.tmps)=true) (x y:Operand) (ho:o.op=Op.call { callee:=Callee.builtin Builtin.delete,args:=#[x,y],argTypes:=#[71,9]})
 (hx:a.eval x= .map (some b)) (hy:a.eval y= .string (str s)) (hd:∀ ty,∃ w',(Builtin.delete_ #[71,9] ty #[.map (some b), .string (str s)]).run Tryz.prog w= .ok (.tuple #[]) w'∧R w')
 (h:∀ w',R w'→wpList Tryz.prog ops Q rest (a.put o.dst (.tuple #[])) w'):wpList Tryz.prog ops Q (o::rest) a w:=by
 obtain⟨w',hr,hR⟩:=hd o.type
 refine Z11 hw _ w' ?_ (h w' hR)
 simp [execOp,ho,resolve,invoke,builtin,hx,hy,hr,Result.andThen]
end
theorem Z1b {w:World} {U:Nat→Prop} {g B m n:Nat} {q:Int→Nat} {Z:Tz} {x:Int→Int} (h:Tx w U g q B Z) (hz:Z.okD m n x) (hm:m≤1000) (hB:B≤1000) {d i:Int} (hd:(Z.nd d).k=2) (hk:(Z.nd i).k≠0) (s:List UInt8) (hs:s.length≤10) (c:Int):
 Calls Tryz.prog 97 #[.pointer (some ⟨g,0,none⟩), .agg (spC (some (q d)) s c).toArray, .int .i64 i] w fun e w'=>e= .returned (.tuple #[])∧TxG U g q (B+1) (Z.nam d s i) w w':=by
 obtain⟨tg,mb,ob,nb,sv,H,hU⟩:=h
 have hwf:=Z12 hz hm hk
 have hdk:(Z.nd d).k≠0:=by rw [hd];decide
 have hdl:=hz.live hdk
 have hil:=hz.live hk
 have hi0:i≠0:=by omega
 have hso:=hz.so d
 have hsl:s.length≤maxLen:=by unfold maxLen;omega
 have ek:((Z.put d s i).nd i).k≠0∧((Z.put d s i).nd i).ln=(Z.nd i).ln:=by
  rw [Z0v hdl.2]
  split
  · rename_i e
    have:i=d:=by omega
    subst this;exact⟨hdk,rfl⟩
  · exact⟨hk,rfl⟩
 have hln:=hz.lx i
 go_enter Tryz.func97,Tryz.ntmps97
 go_wp2_with (refine Z2n 145 (by rfl) _ (by rfl) (spC (some (q d)) s c) (by rfl) (Z4l _ _ _) ?_;intro gb w1 z1 z2 r1 b1)
 have H1:=H.later b1
 refine Z0r (S:=fun u=>Below w1.heap.size w1 u) _ _ (by simp only [List.pop_toArray,List.dropLast_cons_cons,List.dropLast_singleton];rfl) (by simp only [List.back?_toArray,List.getLast?_cons_cons,List.getLast?_singleton];rfl) (by kernel_rfl) (by kernel_rfl) (Below.refl _ _).drew (fun hHeld=>?_)
 refine tl 0 (.pointer (some ⟨gb,0,none⟩)) rfl ?_
 try simp only [z]
 refine tl 1 (.pointer (some ⟨q d,0,none⟩)) rfl ?_ (fun u hu=>by have x1:=(r1.later hu).cell 0 _ rfl;go_simp)
 try simp only [z]
 refine tl 2 (.pointer (some ⟨q d,0,none⟩)) rfl ?_
 try simp only [z]
 refine tl 3 (.pointer (some ⟨q d,3,none⟩)) rfl ?_
 try simp only [z]
 refine tl 4 (.map (some (nb d))) rfl ?_ (fun u hu=>by have x1:=(H1.later hu).n3 hd;go_simp)
 try simp only [z]
 refine tl 5 (.pointer (some ⟨gb,1,none⟩)) rfl ?_
 try simp only [z]
 refine tl 6 (.string (str s)) rfl ?_ (fun u hu=>by have x1:=(r1.later hu).cell 1 _ rfl;go_simp)
 try simp only [z]
 refine tl 7 (.int .i64 i) rfl ?_
 try simp only [z]
 refine wpAnyH_done (by kernel_rfl) ?_ _
 have H2:=H1.later hHeld
 have b2:=Z00q b1 hHeld (Nat.le_refl _)
 generalize w1.drew=w2 at *
 show wpList _ _ _ [_] _ _
 refine Zd5 (by rfl) _ _ _ (by rfl) (nb d) B (Z.nd d).nm (by rfl) s (by rfl) i (by rfl) (H2.nm d hd).2 hso (by omega) hsl hi0 ?_
 intro w3 m3 s3
 have H3:=H2.names hd hdl.2 (Nat.le_succ B) m3 s3
 change Tw w3 tg g mb ob q nb sv (B+1) (Z.put d s i)at H3
 have c0:=H3.c0
 have lo:=H3.look ek.1 hwf
 have n1:=H3.n1 ek.1
 have f1:=(H3.nd i ek.1).2.frozen 1
 rw [ek.2]at n1
 have e2:Hid (Z.nam d s i=(Z.put d s i).up i ⟨((Z.put d s i).nd i).k,(Z.nd i).ln+1,((Z.put d s i).nd i).d,((Z.put d s i).nd i).nm⟩):=by show _=_;unfold Tz.nam Tz.lnk;rw [ek.2]
 have H4:=H3.links ek.1 (by rw [Z0h];exact hil.2) ((Z.nd i).ln+1)
 have e2':=e2.out
 rw [← e2']at H4
 clear e2'
 generalize (Z.nd i).ln=L at *
 have hw:IntKind.i64.wrap (L+1)=L+1:=by rw [IntKind.wrap_i64];omega
 clear hln ek
 go_wp2_with fail
 first | go_end0 | refine bodyPost_ret (results_none rfl _ _ _) rfl ?_
 refine⟨rfl,Z4m hU H4 (((Stp.of_below b2 U).next s3 (fun y e=>?_)).setCell (p:=⟨q i,1,none⟩) (.inl ?_) _) (fun y hy=> .inl hy)⟩
 · subst e;exact .inl ((hU _).2 (by have:=(H.nm d hd).1;omega))
 · exact(hU _).2 (by have:=(H.nd i hk).1;show tg (q i)≠0;omega)
theorem Z38 {w:World} {U:Nat→Prop} {g B m n:Nat} {q:Int→Nat} {Z:Tz} {x:Int→Int} (h:Tx w U g q B Z) (hz:Z.okD m n x) (hm:m≤1000) (hx:∀ j,2≤j→x j=0) {d i:Int} (hd:(Z.nd d).k=2) (s:List UInt8) (hl:lk (Z.nd d).nm s=i) (hi:2≤i) (hs:s.length≤10):
 Calls Tryz.prog 105 #[.pointer (some ⟨g,0,none⟩), .agg (spC (some (q d)) s i).toArray] w fun e w'=>e= .returned (.tuple #[])∧TxG U g q B (Z.un d s i) w w':=by
 obtain⟨tg,mb,ob,nb,sv,H,hU⟩:=h
 have hk:(Z.nd i).k≠0:=by have:=(Z2o hz d (s:=s) (by omega)).2;rw [hl]at this;exact this
 have hwf:=Z12 hz hm hk
 have hdk:(Z.nd d).k≠0:=by rw [hd];decide
 have hdl:=hz.live hdk
 have hil:=hz.live hk
 have hso:=hz.so d
 have hsl:s.length≤maxLen:=by unfold maxLen;omega
 have ek:((Z.put d s 0).nd i).k≠0∧((Z.put d s 0).nd i).ln=(Z.nd i).ln:=by
  rw [Z0v hdl.2]
  split
  · rename_i e
    have:i=d:=by omega
    subst this;exact⟨hdk,rfl⟩
  · exact⟨hk,rfl⟩
 have hln:=hz.lx i
 have hc1:1≤(Z.nd i).ln:=by
  obtain⟨y,q1,q2,q3⟩:=Z3u (l:=(Z.nd d).nm) (s:=s) (by omega)
  have c:=Z4a Z.N d.toNat y q1
  rw [q3,hl]at c
  have:=hz.ln i (by omega) hk
  have:=hx i hi
  omega
 have hz2:((Z.put d s 0).lnk i (-1)).okD m n x:=by
  refine((hz.put0 hd s).lnk (i:=i) ek.1 (-1) (by rw [ek.2];omega)).mono (Nat.le_refl _) (Nat.le_refl _) (fun j hj _=>?_)
  rw [hl]
  by_cases e:i=j
  · simp [e];omega
  · rw [if_neg e,if_neg (fun h=>e h.symm)];omega
 go_enter Tryz.func105,Tryz.ntmps105
 go_wp2_with (refine Z2n 145 (by rfl) _ (by rfl) (spC (some (q d)) s i) (by rfl) (Z4l _ _ _) ?_;intro gb w1 z1 z2 r1 b1)
 have H1:=H.later b1
 refine Z0r (S:=fun u=>Below w1.heap.size w1 u) _ _ (by simp only [List.pop_toArray,List.dropLast_cons_cons,List.dropLast_singleton];rfl) (by simp only [List.back?_toArray,List.getLast?_cons_cons,List.getLast?_singleton];rfl) (by kernel_rfl) (by kernel_rfl) (Below.refl _ _).drew (fun hHeld=>?_)
 refine tl 0 (.pointer (some ⟨gb,0,none⟩)) rfl ?_
 try simp only [z]
 refine tl 1 (.pointer (some ⟨q d,0,none⟩)) rfl ?_ (fun u hu=>by have x1:=(r1.later hu).cell 0 _ rfl;go_simp)
 try simp only [z]
 refine tl 2 (.pointer (some ⟨q d,0,none⟩)) rfl ?_
 try simp only [z]
 refine tl 3 (.pointer (some ⟨q d,3,none⟩)) rfl ?_
 try simp only [z]
 refine tl 4 (.map (some (nb d))) rfl ?_ (fun u hu=>by have x1:=(H1.later hu).n3 hd;go_simp)
 try simp only [z]
 refine tl 5 (.pointer (some ⟨gb,1,none⟩)) rfl ?_
 try simp only [z]
 refine tl 6 (.string (str s)) rfl ?_ (fun u hu=>by have x1:=(r1.later hu).cell 1 _ rfl;go_simp)
 try simp only [z]
 refine wpAnyH_done (by kernel_rfl) ?_ _
 have H2:=H1.later hHeld
 have r2:=r1.later hHeld
 have b2:=Z00q b1 hHeld (Nat.le_refl _)
 generalize w1.drew=w2 at *
 clear hHeld
 show wpList _ _ _ [_] _ _
 refine Zcy (s:=s) (by rfl) _ _ (by rfl) (by rfl) (by rfl) (fun ty=>(H2.nm d hd).2.drop hso hsl ty) ?_
 rintro w3 ⟨m3,s3⟩
 have H3:=H2.names hd hdl.2 (Nat.le_refl B) m3 s3
 change Tw w3 tg g mb ob q nb sv B (Z.put d s 0)at H3
 have gn:gb≠nb d:=fun e=>by have:=H.low (nb d) (by have:=(H.nm d hd).1;omega);omega
 have r3:=r2.step s3 gn
 have e2:Hid ((Z.put d s 0).lnk i (-1)=(Z.put d s 0).up i ⟨((Z.put d s 0).nd i).k,(Z.nd i).ln+ -1,((Z.put d s 0).nd i).d,((Z.put d s 0).nd i).nm⟩):=by show _=_;unfold Tz.lnk;rw [ek.2]
 go_wp2_with fail
 refine Z0r (S:=fun u=>Below w3.heap.size w3 u) _ _ (by simp only [List.pop_toArray,List.dropLast_cons_cons,List.dropLast_singleton];rfl) (by simp only [List.back?_toArray,List.getLast?_cons_cons,List.getLast?_singleton];rfl) (by kernel_rfl) (by kernel_rfl) (Below.refl _ _).drew (fun hHeld=>?_)
 have hw:IntKind.i64.wrap ((Z.nd i).ln - 1)=(Z.nd i).ln+ -1:=by rw [IntKind.wrap_i64];omega
 refine tl 0 (.pointer (some ⟨g,0,none⟩)) rfl ?_
 try simp only [z]
 refine tl 1 (.pointer (some ⟨g,0,none⟩)) rfl ?_
 try simp only [z]
 refine tl 2 (.pointer (some ⟨g,0,none⟩)) rfl ?_
 try simp only [z]
 refine tl 3 (.map (some mb)) rfl ?_ (fun u hu=>by have x1:=(H3.later hu).c0;go_simp)
 try simp only [z]
 refine tl 4 (.pointer (some ⟨gb,2,none⟩)) rfl ?_
 try simp only [z]
 refine tl 5 (.int .i64 i) rfl ?_ (fun u hu=>by have x1:=(r3.later hu).cell 2 _ rfl;go_simp)
 try simp only [z]
 refine tl 6 (.pointer (some ⟨q i,0,none⟩)) rfl ?_ (fun u hu=>by have x1:=(H3.later hu).look ek.1 hwf;go_simp)
 try simp only [z]
 refine tl 7 (.pointer (some ⟨q i,0,none⟩)) rfl ?_
 try simp only [z]
 refine tl 8 (.pointer (some ⟨q i,1,none⟩)) rfl ?_
 try simp only [z]
 refine tl 9 (.int .i64 (Z.nd i).ln) rfl ?_ (fun u hu=>by have x1:=(H3.later hu).n1 ek.1;rw [ek.2]at x1;go_simp)
 try simp only [z]
 refine tl 10 (.int .i64 ((Z.nd i).ln+ -1)) rfl ?_
 try simp only [z]
 refine tl 11 (.pointer (some ⟨q i,0,none⟩)) rfl ?_
 try simp only [z]
 refine tl 12 (.pointer (some ⟨q i,1,none⟩)) rfl ?_
 try simp only [z]
 refine wpAnyH_done (by kernel_rfl) ?_ _
 have H4:=H3.later hHeld
 have r4:=r3.later hHeld
 have b4:Stp (fun y=>y=nb d) w2 w3.drew:=s3.trans (Stp.of_below hHeld _)
 generalize w3.drew=w4 at *
 show wpList _ _ _ [_] _ _
 have n1:=H4.n1 ek.1
 have f1:=(H4.nd i ek.1).2.frozen 1
 have H5:=H4.links ek.1 (by rw [Z0h];exact hil.2) ((Z.nd i).ln+ -1)
 have e2':=e2.out
 rw [← e2']at H5
 clear e2'
 have gq:gb≠q i:=fun e=>by have:=H.low (q i) (by have:=(H.nd i hk).1;omega);omega
 have r5:=r4.step ((Stp.refl (fun x=>x=q i) w4).setCell (p:=⟨q i,1,none⟩) (.inl rfl) (.int .i64 ((Z.nd i).ln+ -1))) gq
 have c5:=r5.cell 2 _ rfl
 have K:=fun U' (hU':Tx (w4.setCell ⟨q i,1,none⟩ (.int .i64 ((Z.nd i).ln+ -1))) U' g q B ((Z.put d s 0).lnk i (-1)))=>Z70 hU' hz2 hm (i:=i) (by
  unfold Tz.lnk
  rw [Z24 (by rw [Z0h];exact hil.2),if_pos rfl];exact ek.1)
 have K1:=K _ ⟨tg,mb,ob,nb,sv,H5,fun y=>Iff.rfl⟩
 have k6:Stp U w (w4.setCell ⟨q i,1,none⟩ (.int .i64 ((Z.nd i).ln+ -1))):=((Stp.of_below b2 U).next b4 (fun y e=>by subst e;exact .inl ((hU _).2 (by have:=(H.nm d hd).1;omega)))).setCell (p:=⟨q i,1,none⟩) (.inl ((hU _).2 (by have:=(H.nd i hk).1;show tg (q i)≠0;omega))) _
 clear K
 go_wp2_with (go_at_call 101;refine K1.mono ?_;rintro e w6 ⟨rfl,G6⟩)
 first | go_end0 | refine bodyPost_ret (results_none rfl _ _ _) rfl ?_
 obtain⟨U6,g1,g2,g3⟩:=G6
 refine⟨rfl,U6,g1,k6.next g2 (fun y hy=> .inl ((hU y).2 hy)),fun y hy=>?_⟩
 rcases g3 y hy with e | e
 · exact .inl ((hU y).2 e)
 · exact .inr ⟨Nat.le_trans k6.size e.1,e.2⟩
end Go.Proofs.YtdnjddpfcgginaaGreat
