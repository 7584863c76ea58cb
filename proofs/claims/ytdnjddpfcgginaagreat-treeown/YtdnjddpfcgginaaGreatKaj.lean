/-
  Texts of my own, joined: no statement is proved here.
-/
import Derived.Shelf.Small.Wraps
import Derived.Shelf.Slices.Equal
import Derived.Shelf.Slices.Empties2
import Derived.Shelf.Strings.Search1
import Derived.Shelf.Strings.Search2
import Derived.Shelf.Strings.OnBuilder
import Derived.Test.YtdnjddpfcgginaaGreatRows
import Derived.Shelf.SlGeneric
import Derived.Shelf.Sort.Plain
import Derived.Shelf.Slices.In.SortNone
import Derived.Shelf.SlIter.Sorted
import Derived.Shelf.SlIter.Keys
import Derived.Shelf.SlIter.Nil
import Derived.Shelf.SlMaps.Clone
import Derived.Sort.KeysCollected
import Derived.Deep.DeepCutAuto
import Derived.Test.YtdnjddpfcgginaaGreatKah
import Derived.Test.YtdnjddpfcgginaaGreatKai
set_option linter.unusedSimpArgs false
set_option linter.unusedVariables false
namespace Go.Proofs
open Go.Shelf
def YtdnjddpfcgginaaGreat.lays103_ren:Go.Shelf.Ren:=⟨fun | 103=>42 | 210=>81 | 206=>114 | n=>n,fun | 9=>9 | 4=>4 | 24=>86 | 3=>3 | n=>n,fun | n=>n⟩
theorem YtdnjddpfcgginaaGreat.lays103:Go.Proofs.Lays.n103 Tryz.prog YtdnjddpfcgginaaGreat.lays103_ren:= {
 mixed:=by kernel_rfl
 f103:=Tryz.func42.trans (congrArg some (by kernel_rfl))
 f206:=Tryz.func114.trans (congrArg some (by kernel_rfl))
 f210:=Tryz.func81.trans (congrArg some (by kernel_rfl))
 t3:=Tryz.underlying3
 a3:=Tryz.isAgg3
 z3:=Tryz.sizeOf3
 v3:=Tryz.zeroValue3
 t4:=Tryz.underlying4
 a4:=Tryz.isAgg4
 z4:=Tryz.sizeOf4
 v4:=Tryz.zeroValue4
 t9:=Tryz.underlying9
 a9:=Tryz.isAgg9
 z9:=Tryz.sizeOf9
 v9:=Tryz.zeroValue9
 t24:=Tryz.underlying86
 a24:=Tryz.isAgg86
 z24:=Tryz.sizeOf86
 v24:=Tryz.zeroValue86}
def YtdnjddpfcgginaaGreat.lays219_ren:Go.Shelf.Ren:=⟨fun | 219=>115 | 217=>136 | 225=>137 | 224=>138 | 267=>139 | 266=>157 | 314=>158 | n=>n,fun | 9=>9 | 3=>3 | 4=>4 | 5=>5 | 46=>133 | 146=>191 | 51=>167 | n=>n,fun | 1=>0 | n=>n⟩
theorem YtdnjddpfcgginaaGreat.lays219:Go.Proofs.Lays.n219 Tryz.prog YtdnjddpfcgginaaGreat.lays219_ren:= {
 mixed:=by kernel_rfl
 f217:=Tryz.func136.trans (congrArg some (by kernel_rfl))
 f219:=Tryz.func115.trans (congrArg some (by kernel_rfl))
 f224:=Tryz.func138.trans (congrArg some (by kernel_rfl))
 f225:=Tryz.func137.trans (congrArg some (by kernel_rfl))
 f266:=Tryz.func157.trans (congrArg some (by kernel_rfl))
 f267:=Tryz.func139.trans (congrArg some (by kernel_rfl))
 f314:=Tryz.func158.trans (congrArg some (by kernel_rfl))
 t3:=Tryz.underlying3
 a3:=Tryz.isAgg3
 z3:=Tryz.sizeOf3
 v3:=Tryz.zeroValue3
 t4:=Tryz.underlying4
 a4:=Tryz.isAgg4
 z4:=Tryz.sizeOf4
 v4:=Tryz.zeroValue4
 t5:=Tryz.underlying5
 a5:=Tryz.isAgg5
 z5:=Tryz.sizeOf5
 v5:=Tryz.zeroValue5
 t9:=Tryz.underlying9
 a9:=Tryz.isAgg9
 z9:=Tryz.sizeOf9
 v9:=Tryz.zeroValue9
 t46:=Tryz.underlying133
 a46:=Tryz.isAgg133
 z46:=Tryz.sizeOf133
 v46:=Tryz.zeroValue133
 t51:=Tryz.underlying167
 a51:=Tryz.isAgg167
 z51:=Tryz.sizeOf167
 v51:=Tryz.zeroValue167
 t146:=Tryz.underlying191
 a146:=Tryz.isAgg191
 z146:=Tryz.sizeOf191
 v146:=Tryz.zeroValue191
 g1:=by kernel_rfl}
def YtdnjddpfcgginaaGreat.lays193_ren:Go.Shelf.Ren:=⟨fun | 193=>160 | n=>n,fun | 31=>30 | 9=>9 | 4=>4 | 3=>3 | 0=>0 | n=>n,fun | n=>n⟩
theorem YtdnjddpfcgginaaGreat.lays193:Go.Proofs.Lays.n193 Tryz.prog YtdnjddpfcgginaaGreat.lays193_ren:= {
 mixed:=by kernel_rfl
 f193:=Tryz.func160.trans (congrArg some (by kernel_rfl))
 t0:=Tryz.underlying0
 a0:=Tryz.isAgg0
 z0:=Tryz.sizeOf0
 v0:=Tryz.zeroValue0
 t3:=Tryz.underlying3
 a3:=Tryz.isAgg3
 z3:=Tryz.sizeOf3
 v3:=Tryz.zeroValue3
 t4:=Tryz.underlying4
 a4:=Tryz.isAgg4
 z4:=Tryz.sizeOf4
 v4:=Tryz.zeroValue4
 t9:=Tryz.underlying9
 a9:=Tryz.isAgg9
 z9:=Tryz.sizeOf9
 v9:=Tryz.zeroValue9
 t31:=Tryz.underlying30
 a31:=Tryz.isAgg30
 z31:=Tryz.sizeOf30
 v31:=Tryz.zeroValue30}
end Go.Proofs
namespace Go.Proofs.YtdnjddpfcgginaaGreat
open Go.ChangeShapes Go.WideShapes Go.ChangeAt Go.RowKit
theorem Z9o (l:List UInt8) (i j:Nat):(str l).extract i j=str ((l.take j).drop i):=by
 apply ByteArray.ext
 unfold str;simp [List.drop_take]
theorem Z53 (l:List UInt8):(str l).data.toList=l:=by unfold str;simp
def ctA (l:List UInt8):List UInt8:=if Lib.indexByte l 47= -1 then l else l.take (Lib.indexByte l 47).toNat
def ctB (l:List UInt8):List UInt8:=if Lib.indexByte l 47= -1 then []else l.drop ((Lib.indexByte l 47).toNat+1)
def ctF (l:List UInt8):Bool:=decide (Lib.indexByte l 47≠ -1)
set_option maxRecDepth 100000 in
theorem Z33 (l:List UInt8) (w:World) (hl:l.length≤100000):Calls Tryz.prog 43 #[.string (str l), .string ⟨#[47]⟩] w fun e w'=>e= .returned (.tuple #[.string (str (ctA l)), .string (str (ctB l)), .bool (ctF l)])∧Below w.heap.size w w':=by
 have H:=Any.stringslite_Index_one YtdnjddpfcgginaaGreat.lays219 (str l) 47 w
 have H':Calls Tryz.prog 115 #[.string (str l), .string ⟨#[47]⟩] w fun e w'=>e= .returned (.int .i64 (Lib.indexByte l 47))∧w'=w:=by
  have:=Z53 l
  rw [this]at H
  exact H
 clear H
 have hz:=Z1t l
 unfold ctA ctB ctF
 have hS:=Z9o l
 rcases Z6p l with⟨h1,_⟩ | ⟨i,h1,h2,_⟩
 · rw [h1]at H' ⊢
   rw [if_pos rfl,if_pos rfl]
   go_enter Tryz.func43,Tryz.ntmps43
   go_wp2_with (first
    | (go_at_call 115;refine H'.mono ?_;rintro e w' ⟨rfl,rfl⟩)
    | go_in)
   go_returns
   exact⟨rfl,Below.refl _ _⟩
 · rw [h1]at H' ⊢
   have hne:¬(i:Int)= -1:=by omega
   rw [if_neg hne,if_neg hne]
   have e1:=hS 0 i
   have e2:=hS (i+1) l.length
   rw [List.take_length]at e2
   rw [List.drop_zero]at e1
   have c1:(i:Int)≤l.length:=by omega
   have c2:(i:Int)+1≤l.length:=by omega
   have c3:IntKind.i64.wrap ((i:Int)+1)=(i:Int)+1:=by rw [IntKind.wrap_i64];omega
   have c4:((i:Int)+1).toNat=i+1:=by omega
   have c5:(0:Int)≤(i:Int)+1:=by omega
   clear hS
   have a0:((i:Int)).toNat=i:=by omega
   rw [a0]
   go_enter Tryz.func43,Tryz.ntmps43
   go_wp2_with (first
    | (go_at_call 115;refine H'.mono ?_;rintro e w' ⟨rfl,rfl⟩)
    | go_in)
   go_region
   go_wp2
   go_returns
   exact⟨by simp,(Below.refl _ _).drew⟩
theorem Zcm (l:List UInt8) (w:World):Calls Tryz.prog 42 #[.string (str l), .string ⟨#[47]⟩] w fun e w'=>e= .returned (.tuple #[.string (str (if l.head? =some 47 then l.tail else l)), .bool (decide (l.head? =some 47))])∧w=w':=by
 refine(Any.strings_CutPrefix YtdnjddpfcgginaaGreat.lays103 (str l) ⟨#[47]⟩ w).mono ?_
 rintro e w' ⟨rfl,rfl⟩
 refine⟨?_,rfl⟩
 rw [Z53]
 cases l with
 | nil=>rfl
 | cons b r=>
   by_cases hb:b=47
   · subst hb
     simp [Lib.trimPrefix,Lib.hasPrefix,str]
   · have hb':¬(47:UInt8)=b:=fun e=>hb e.symm
     have hp: [(47:UInt8)].isPrefixOf (b::r)=false:=by simp [List.isPrefixOf,hb']
     simp [Lib.trimPrefix,Lib.hasPrefix,str,hb,hp]
end Go.Proofs.YtdnjddpfcgginaaGreat
namespace Go.Proofs
open Go.Shelf
def YtdnjddpfcgginaaGreat.lays190_ren:Go.Shelf.Ren:=⟨fun | 190=>112 | 125=>86 | 258=>135 | 128=>125 | 129=>126 | 302=>148 | 303=>149 | 304=>150 | 305=>151 | 306=>152 | 307=>153 | 308=>154 | 309=>155 | 310=>156 | 333=>161 | 329=>141 | 330=>142 | 334=>162 | 335=>163 | 336=>164 | 344=>165 | n=>n,fun | 31=>30 | 9=>9 | 3=>3 | 46=>133 | 0=>0 | 51=>167 | 53=>169 | 4=>4 | 183=>161 | 182=>160 | 131=>124 | 5=>5 | 218=>177 | 222=>181 | 228=>193 | 229=>194 | n=>n,fun | n=>n⟩
theorem YtdnjddpfcgginaaGreat.lays190:Go.Proofs.Lays.n190 Tryz.prog YtdnjddpfcgginaaGreat.lays190_ren:= {
 mixed:=by kernel_rfl
 f125:=Tryz.func86.trans (congrArg some (by kernel_rfl))
 f128:=Tryz.func125.trans (congrArg some (by kernel_rfl))
 f129:=Tryz.func126.trans (congrArg some (by kernel_rfl))
 f190:=Tryz.func112.trans (congrArg some (by kernel_rfl))
 f258:=Tryz.func135.trans (congrArg some (by kernel_rfl))
 f302:=Tryz.func148.trans (congrArg some (by kernel_rfl))
 f303:=Tryz.func149.trans (congrArg some (by kernel_rfl))
 f304:=Tryz.func150.trans (congrArg some (by kernel_rfl))
 f305:=Tryz.func151.trans (congrArg some (by kernel_rfl))
 f306:=Tryz.func152.trans (congrArg some (by kernel_rfl))
 f307:=Tryz.func153.trans (congrArg some (by kernel_rfl))
 f308:=Tryz.func154.trans (congrArg some (by kernel_rfl))
 f309:=Tryz.func155.trans (congrArg some (by kernel_rfl))
 f310:=Tryz.func156.trans (congrArg some (by kernel_rfl))
 f329:=Tryz.func141.trans (congrArg some (by kernel_rfl))
 f330:=Tryz.func142.trans (congrArg some (by kernel_rfl))
 f333:=Tryz.func161.trans (congrArg some (by kernel_rfl))
 f334:=Tryz.func162.trans (congrArg some (by kernel_rfl))
 f335:=Tryz.func163.trans (congrArg some (by kernel_rfl))
 f336:=Tryz.func164.trans (congrArg some (by kernel_rfl))
 f344:=Tryz.func165.trans (congrArg some (by kernel_rfl))
 t0:=Tryz.underlying0
 a0:=Tryz.isAgg0
 z0:=Tryz.sizeOf0
 v0:=Tryz.zeroValue0
 t3:=Tryz.underlying3
 a3:=Tryz.isAgg3
 z3:=Tryz.sizeOf3
 v3:=Tryz.zeroValue3
 t4:=Tryz.underlying4
 a4:=Tryz.isAgg4
 z4:=Tryz.sizeOf4
 v4:=Tryz.zeroValue4
 t5:=Tryz.underlying5
 a5:=Tryz.isAgg5
 z5:=Tryz.sizeOf5
 v5:=Tryz.zeroValue5
 t9:=Tryz.underlying9
 a9:=Tryz.isAgg9
 z9:=Tryz.sizeOf9
 v9:=Tryz.zeroValue9
 t31:=Tryz.underlying30
 a31:=Tryz.isAgg30
 z31:=Tryz.sizeOf30
 v31:=Tryz.zeroValue30
 t46:=Tryz.underlying133
 a46:=Tryz.isAgg133
 z46:=Tryz.sizeOf133
 v46:=Tryz.zeroValue133
 t51:=Tryz.underlying167
 a51:=Tryz.isAgg167
 z51:=Tryz.sizeOf167
 v51:=Tryz.zeroValue167
 t53:=Tryz.underlying169
 a53:=Tryz.isAgg169
 z53:=Tryz.sizeOf169
 v53:=Tryz.zeroValue169
 t131:=Tryz.underlying124
 a131:=Tryz.isAgg124
 z131:=Tryz.sizeOf124
 v131:=Tryz.zeroValue124
 t182:=Tryz.underlying160
 a182:=Tryz.isAgg160
 z182:=Tryz.sizeOf160
 v182:=Tryz.zeroValue160
 t183:=Tryz.underlying161
 a183:=Tryz.isAgg161
 z183:=Tryz.sizeOf161
 v183:=Tryz.zeroValue161
 t218:=Tryz.underlying177
 a218:=Tryz.isAgg177
 z218:=Tryz.sizeOf177
 v218:=Tryz.zeroValue177
 t222:=Tryz.underlying181
 a222:=Tryz.isAgg181
 z222:=Tryz.sizeOf181
 v222:=Tryz.zeroValue181
 t228:=Tryz.underlying193
 a228:=Tryz.isAgg193
 z228:=Tryz.sizeOf193
 v228:=Tryz.zeroValue193
 t229:=Tryz.underlying194
 a229:=Tryz.isAgg194
 z229:=Tryz.sizeOf194
 v229:=Tryz.zeroValue194}
def YtdnjddpfcgginaaGreat.cloneT_ren:Go.Shelf.Ren:=⟨fun | 5=>38 | 7=>78 | n=>n,fun | 23=>71 | 25=>9 | 3=>3 | 4=>4 | 20=>20 | n=>n,fun | n=>n⟩
theorem YtdnjddpfcgginaaGreat.cloneT:Go.Proofs.SlLaysW.n5 Tryz.prog YtdnjddpfcgginaaGreat.cloneT_ren:= {
 mixed:=by kernel_rfl
 f5:=⟨Tryz.f38.name,by decide,Tryz.func38.trans (congrArg some (by kernel_rfl))⟩
 f7:=Tryz.func78.trans (congrArg some (by kernel_rfl))
 t4:=Tryz.underlying4
 a4:=Tryz.isAgg4
 z4:=Tryz.sizeOf4
 v4:=Tryz.zeroValue4
 t20:=Tryz.underlying20
 a20:=Tryz.isAgg20
 z20:=Tryz.sizeOf20
 v20:=Tryz.zeroValue20
 t23:=Tryz.underlying71
 a23:=Tryz.isAgg71
 z23:=Tryz.sizeOf71
 v23:=Tryz.zeroValue71}
def YtdnjddpfcgginaaGreat.keysT_ren:Go.Shelf.Ren:=⟨fun | 7=>80 | 10=>113 | n=>n,fun | 23=>71 | 26=>9 | 3=>3 | 28=>127 | 0=>0 | 27=>126 | 33=>129 | 4=>4 | n=>n,fun | n=>n⟩
theorem YtdnjddpfcgginaaGreat.keysT:Go.Proofs.SlLaysZ.n7 Tryz.prog YtdnjddpfcgginaaGreat.keysT_ren:= {
 mixed:=by kernel_rfl
 f7:=⟨Tryz.f80.name,by decide,Tryz.func80.trans (congrArg some (by kernel_rfl))⟩
 f10:=⟨Tryz.f113.name,by decide,Tryz.func113.trans (congrArg some (by kernel_rfl))⟩
 t0:=Tryz.underlying0
 a0:=Tryz.isAgg0
 z0:=Tryz.sizeOf0
 v0:=Tryz.zeroValue0
 t4:=Tryz.underlying4
 a4:=Tryz.isAgg4
 z4:=Tryz.sizeOf4
 v4:=Tryz.zeroValue4
 t23:=Tryz.underlying71
 a23:=Tryz.isAgg71
 z23:=Tryz.sizeOf71
 v23:=Tryz.zeroValue71
 t26:=Tryz.underlying9
 a26:=Tryz.isAgg9
 z26:=Tryz.sizeOf9
 v26:=Tryz.zeroValue9
 t27:=Tryz.underlying126
 a27:=Tryz.isAgg126
 z27:=Tryz.sizeOf126
 v27:=Tryz.zeroValue126
 t28:=Tryz.underlying127
 a28:=Tryz.isAgg127
 z28:=Tryz.sizeOf127
 v28:=Tryz.zeroValue127
 t33:=Tryz.underlying129
 a33:=Tryz.isAgg129
 z33:=Tryz.sizeOf129
 v33:=Tryz.zeroValue129}
def YtdnjddpfcgginaaGreat.sortedT_ren:Go.Shelf.Ren:=⟨fun | 6=>79 | 8=>111 | 9=>112 | 11=>134 | 13=>86 | 12=>135 | 23=>125 | 24=>126 | 14=>148 | 15=>149 | 16=>150 | 17=>151 | 18=>152 | 19=>153 | 20=>154 | 21=>155 | 22=>156 | 25=>161 | 26=>141 | 27=>142 | 28=>162 | 29=>163 | 30=>164 | 31=>165 | n=>n,fun | 26=>9 | 28=>127 | 24=>30 | 0=>0 | 3=>3 | 37=>133 | 48=>167 | 50=>169 | 4=>4 | 40=>161 | 39=>160 | 45=>124 | 5=>5 | 9=>9 | 51=>177 | 55=>181 | 57=>193 | 58=>194 | 33=>129 | n=>n,fun | n=>n⟩
theorem YtdnjddpfcgginaaGreat.sortedT:Go.Proofs.SlLaysZ.n6 Tryz.prog YtdnjddpfcgginaaGreat.sortedT_ren:= {
 mixed:=by kernel_rfl
 f6:=⟨Tryz.f79.name,by decide,Tryz.func79.trans (congrArg some (by kernel_rfl))⟩
 f8:=⟨Tryz.f111.name,by decide,Tryz.func111.trans (congrArg some (by kernel_rfl))⟩
 f11:=⟨Tryz.f134.name,by decide,Tryz.func134.trans (congrArg some (by kernel_rfl))⟩
 t0:=Tryz.underlying0
 a0:=Tryz.isAgg0
 z0:=Tryz.sizeOf0
 v0:=Tryz.zeroValue0
 t24:=Tryz.underlying30
 a24:=Tryz.isAgg30
 z24:=Tryz.sizeOf30
 v24:=Tryz.zeroValue30
 t26:=Tryz.underlying9
 a26:=Tryz.isAgg9
 z26:=Tryz.sizeOf9
 v26:=Tryz.zeroValue9
 t28:=Tryz.underlying127
 a28:=Tryz.isAgg127
 z28:=Tryz.sizeOf127
 v28:=Tryz.zeroValue127
 i26:=by kernel_rfl}
end Go.Proofs
namespace Go.Proofs.YtdnjddpfcgginaaGreat
open Go.ChangeShapes Go.WideShapes Go.ChangeAt Go.RowKit Go.Shelf
set_option maxRecDepth 100000
def keyT (s:List UInt8):Lit:= .string s
theorem Z5k {a b:List UInt8} (h:a≠b):keyT a≠keyT b:=fun e=>h (by injection e)
theorem Zce (s:List UInt8):WideAt.IsKeyLit (keyT s):=trivial
def Z21 (D:DataW Value) (f:List UInt8→Option Value):Prop:=
 ∀ k,match f k with
   | none=>Maps.has D (keyT k)=false
   | some v=>∀ z,D.atKey (keyT k) z= .held v
section
variable {D : DataW Value} {f g : List UInt8 → Option Value}
theorem Z21.none (h:Z21 D f) {k:List UInt8} (e:f k=none):Maps.has D (keyT k)=false:=by have:=h k;rw [e]at this;exact this
theorem Z21.some (h:Z21 D f) {k:List UInt8} {v:Value} (e:f k=some v) (z:DataW Value):D.atKey (keyT k) z= .held v:=by have:=h k;rw [e]at this;exact this z
theorem Z21.has (h:Z21 D f) (k:List UInt8):Maps.has D (keyT k)=(f k).isSome:=by
 cases e:f k with
 | none=>rw [h.none e];rfl
 | some v=>rw [Maps.has_true_of_atKey (h.some e)];rfl
theorem Z8p:Z21 (.map []) (fun _=>Option.none):=fun k=>rfl
theorem Z21.congr (h:Z21 D f) (e:∀ k,f k=g k):Z21 D g:=fun k=>by have:=h k;rw [e k]at this;exact this
theorem Z21.put (h:Z21 D f) (hD:Maps.IsMap D) (k:List UInt8) (v:Value):Z21 (D.put (keyT k) (.held v)) (fun x=>if x=k then Option.some v else f x):=fun x=>by
 by_cases e:x=k
 · subst e;simp only [if_true];intro z;exact Maps.atKey_put_same hD (Zce x) _ z
 · simp only [if_neg e]
   cases ef:f x with
   | none=>simp only [];rw [Maps.has_put_other (Z5k e)];exact h.none ef
   | some u=>intro z;rw [Maps.atKey_put_other (Z5k e)];exact h.some ef z
theorem Z21.del (h:Z21 D f) (k:List UInt8):Z21 (D.del (keyT k)) (fun x=>if x=k then Option.none else f x):=fun x=>by
 by_cases e:x=k
 · subst e;simp only [if_true];exact Maps.has_del_same
 · simp only [if_neg e]
   cases ef:f x with
   | none=>simp only [];rw [Maps.has_del_other (Z5k e)];exact h.none ef
   | some u=>intro z;rw [Maps.atKey_del_other (Z5k e)];exact h.some ef z
end
theorem uTx:Tryz.prog.underlying 9=some .string:=by kernel_rfl
theorem uMt:Tryz.prog.underlying 71=some (.map 9 3):=by kernel_rfl
theorem zIn (w:World):(zeroValue 3).run Tryz.prog w= .ok (.int .i64 0) w:=by kernel_rfl
theorem wfT {s:List UInt8} (h:s.length≤maxLen):keyOf Tryz.prog 9 (.string (str s))=some (keyT s):=by
 have:=Go.WideMaps.keyOf_string_mk uTx (s:=str s) (by rw [Z1t];exact h)
 rw [Z53]at this;exact this
def nmF (l:List Ent):List UInt8→Option Value:=fun s=>if lk l s=0 then none else some (.int .i64 (lk l s))
def MpT (w:World) (b n:Nat) (l:List Ent):Prop:=∃ D,w.ownsMap Tryz.prog 9 Z1s b n D∧Z21 D (nmF l)
section
variable {w w' : World} {b n : Nat} {l : List Ent} {F : Nat → Prop}
theorem MpT.lt (h:MpT w b n l):b < w.heap.size:=by obtain⟨D,h,_⟩:=h;exact h.lt
theorem MpT.step (h:MpT w b n l) (k:Stp F w w') (hb:¬F b):MpT w' b n l:=by
 have hl:=h.lt
 obtain⟨D,⟨es,clock,hh,rest⟩,hR⟩:=h
 exact⟨D,⟨es,clock,(k.block b hl hb).trans hh,rest⟩,hR⟩
theorem MpT.later (h:MpT w b n l) (k:Below w.heap.size w w'):MpT w' b n l:=h.step (Stp.of_below k (fun _=>False)) id
theorem MpT.mono (h:MpT w b n l) {n':Nat} (hn:n≤n'):MpT w b n' l:=by obtain⟨D,h1,h2⟩:=h;exact⟨D,h1.mono hn,h2⟩
theorem MpT.made (w:World):MpT (w.alloc (.map #[] 0)) w.heap.size 0 []:=⟨_,World.ownsMap_made w Tryz.prog 9 Z1s,Z8p⟩
theorem MpT.look (h:MpT w b n l) {s:List UInt8} (hs:s.length≤maxLen):(Instr.lookup 71 (.map (some b)) (.string (str s)) false).run Tryz.prog w= .ok (.int .i64 (lk l s)) w:=by
 obtain⟨D,h1,hR⟩:=h
 obtain⟨v,ps,hr,h2⟩:=h1.lookup (Maps.string_keyed uTx) uMt (zIn w) (zd:= .held (.int .i64 0)) (zp:= []) rfl (wfT hs)
 rw [hr]
 have e:DataW.held v=D.atKey (keyT s) (.held (.int .i64 0)):=by injection h2 with h2;injection h2
 by_cases h0:lk l s=0
 · rw [Maps.atKey_of_not_has (hR.none (k:=s) (by unfold nmF;rw [if_pos h0]))]at e;injection e with e;rw [e,h0]
 · rw [hR.some (k:=s) (v:= .int .i64 (lk l s)) (by unfold nmF;rw [if_neg h0])]at e;injection e with e;rw [e]
theorem MpT.look2 (h:MpT w b n l) {s:List UInt8} (hs:s.length≤maxLen):(Instr.lookup 71 (.map (some b)) (.string (str s)) true).run Tryz.prog w= .ok (.tuple #[.int .i64 (lk l s), .bool (decide (lk l s≠0))]) w:=by
 obtain⟨D,h1,hR⟩:=h
 obtain⟨v,ps,hr,h2⟩:=h1.look_ok (Maps.string_keyed uTx) uMt (zIn w) (zd:= .held (.int .i64 0)) (zp:= []) rfl (wfT hs)
 rw [hr,hR.has s]
 have e:DataW.held v=D.atKey (keyT s) (.held (.int .i64 0)):=by injection h2 with h2;injection h2
 by_cases h0:lk l s=0
 · rw [Maps.atKey_of_not_has (hR.none (k:=s) (by unfold nmF;rw [if_pos h0]))]at e;injection e with e
   rw [e,h0];unfold nmF;rw [if_pos h0];simp
 · rw [hR.some (k:=s) (v:= .int .i64 (lk l s)) (by unfold nmF;rw [if_neg h0])]at e;injection e with e
   rw [e];unfold nmF;rw [if_neg h0];simp [h0]
theorem MpT.store (h:MpT w b n l) (hl:Srd l) (hn:n < 100000) {s:List UInt8} (hs:s.length≤maxLen) {i:Int} (hi:i≠0):
 ∃ w',(Instr.mapUpdate 71 (.map (some b)) (.string (str s)) (.int .i64 i)).run Tryz.prog w= .ok () w'∧MpT w' b (n+1) (ptL l s i)∧Stp (fun x=>x=b) w w':=by
 obtain⟨D,h1,hR⟩:=h
 obtain⟨w',r1,r2,r3⟩:=h1.store (Maps.string_keyed uTx) uMt (by unfold maxLen;omega) (wfT hs) (val:= .int .i64 i) (d:= .held (.int .i64 i)) (ps:= []) rfl
 refine⟨w',r1,⟨_,r2,(hR.put h1.isMap s (.int .i64 i)).congr (fun x=>?_)⟩,Z3q r3⟩
 unfold nmF
 rw [Z1n hl]
 by_cases e:x=s
 · simp [e,hi]
 · simp [e]
theorem MpT.drop (h:MpT w b n l) (hl:Srd l) {s:List UInt8} (hs:s.length≤maxLen) (ty:TypeId):
 ∃ w',(Builtin.delete_ #[71,9] ty #[.map (some b), .string (str s)]).run Tryz.prog w= .ok (.tuple #[]) w'∧MpT w' b n (ptL l s 0)∧Stp (fun x=>x=b) w w':=by
 obtain⟨D,h1,hR⟩:=h
 obtain⟨w',r1,r2,r3⟩:=h1.drop (Maps.string_keyed uTx) uMt (wfT hs) ty
 refine⟨w',r1,⟨_,r2,(hR.del s).congr (fun x=>?_)⟩,Z3q r3⟩
 unfold nmF
 rw [Z1n hl]
 by_cases e:x=s
 · simp [e]
 · simp [e]
theorem Zcz {l:List Ent} (hl:Srd l):(l.map (·.s)).Nodup:=by
 rw [List.Nodup,List.pairwise_map]
 exact hl.imp (fun h=>Z37 h)
theorem MpT.keys (h:MpT w b n l) (hl:Srd l) (h0:∀ e ∈ l,e.n≠0):∃ D,w.ownsMap Tryz.prog 9 Z1s b n D∧(l.map (·.s)).Perm (strKeys D):=by
 obtain⟨D,h1,hR⟩:=h
 refine⟨D,h1,?_⟩
 obtain⟨es,hD,hpw,_⟩:=h1.entries (Maps.string_keyed uTx)
 obtain⟨es',hD',hko⟩:=h1.keysOf
 obtain rfl:es=es':=by rw [hD]at hD';simpa using hD'
 subst hD
 refine perm_strKeys hpw (fun p hp=>by obtain⟨v,hv⟩:=hko p hp;obtain⟨x,_,hx,_⟩:=Maps.keyOf_str uTx hv;exact⟨x,hx⟩) (Zcz hl) (fun x=>?_)
 have:=hR.has x
 unfold keyT at this
 rw [this]
 unfold nmF
 constructor
 · intro hx
   obtain⟨e,he,rfl⟩:=List.mem_map.1 hx
   rw [if_neg (by rw [Zd8 hl he];exact h0 e he)];rfl
 · intro hx
   by_cases hz:lk l x=0
   · rw [if_pos hz]at hx;cases hx
   · obtain⟨e,h2,h3,_⟩:=Z3x hz
     exact List.mem_map.2 ⟨e,h2,h3⟩
theorem Zd0 {l:List Ent} (hl:Srd l):(l.map (·.s)).mergeSort leB=l.map (·.s):=by
 refine List.mergeSort_of_pairwise ?_
 rw [List.pairwise_map]
 exact hl.imp (fun h=>by simp only [leB,decide_eq_true_eq];exact Std.le_of_lt (Z36.1 h))
theorem MpT.size {D:DataW Value} (h:w.ownsMap Tryz.prog 9 Z1s b n D):Maps.size D≤n:=by
 obtain⟨es,clock,hb,Ft,hs,hD⟩:=h
 rw [hD];simp [Maps.size,length_sorted];exact hs
end
theorem Zbt (m:Nat):AnyZ.SortsIn Tryz.prog YtdnjddpfcgginaaGreat.sortedT_ren Fence.wide m:=
 ⟨fun blk off cap ss W hH hblk hsz=>callsIn_wide.2 (Any.slices_Sort_string YtdnjddpfcgginaaGreat.lays190 blk off cap ss W hH hblk hsz),
  fun p cap W=>callsIn_wide.2 (Any.slices_Sort_string_none YtdnjddpfcgginaaGreat.lays190 p cap W)⟩
theorem Z6x (mb:Option Nat) (W:World):Calls Tryz.prog 80 #[.map mb] W fun e w'=>e= .returned (.func (.func 113) #[] #[.pointer (some ⟨W.heap.size,0,none⟩)])∧w'=W.alloc (.cells #[.map mb] 71):=
 (callsIn_wide (n:=5)).1 (AnyZ.keys_in YtdnjddpfcgginaaGreat.keysT Fence.wide 5 trivial rfl mb W)
set_option maxRecDepth 100000 in
set_option maxHeartbeats 2000000 in
theorem Z8w {w:World} {b n:Nat} {l:List Ent} (h:MpT w b n l) (hl:Srd l) (h0:∀ e ∈ l,e.n≠0) (hn:n≤100000):
 Calls Tryz.prog 79 #[.func (.func 113) #[] #[.pointer (some ⟨w.heap.size,0,none⟩)]] (w.alloc (.cells #[.map (some b)] 71)) fun e w'=>∃ v,e= .returned v∧OwT w.heap.size w' v (l.map (·.s))∧Below w.heap.size w w':=by
 obtain⟨D0,hown,hp⟩:=h.keys hl h0
 have hsz:=MpT.size hown
 have hbl:=hown.lt
 refine(callsIn_wide (n:=5)).1 ?_
 have hseq:SeqGives Fence.wide 2 Tryz.prog 113 #[.pointer (some ⟨w.heap.size,0,none⟩)] encStr (fun ss=>ss.Perm (strKeys D0)) (Maps.size D0) (w.alloc (.cells #[.map (some b)] 71)):=
  AnyZ.keys_gives (ρ:=YtdnjddpfcgginaaGreat.keysT_ren) { YtdnjddpfcgginaaGreat.keysT with} Fence.wide _ trivial rfl (by omega) w.heap.size b n D0 (R:=Z1s) _ (by simp) (by simp) (by
   obtain⟨es,clock,hb,Ft,hs,hD⟩:=hown
   exact⟨es,clock,(Below.heap_alloc _ _ b hbl).trans hb,Ft,hs,hD⟩)
 have cS:=AnyZ.sorted_in YtdnjddpfcgginaaGreat.sortedT Fence.wide 5 trivial trivial trivial trivial rfl (by omega) (Zbt _) (enters_of Tryz.func112 (by kernel_rfl) rfl) 113 #[.pointer (some ⟨w.heap.size,0,none⟩)] trivial (enters_of Tryz.func113 (by kernel_rfl) rfl) _ _ (by unfold maxLen;omega) (by omega) _ hseq
 change CallsIn _ _ Tryz.prog 79 _ _ _ at cS
 refine cS.mono ?_
 rintro e w' ⟨v,ss,rfl,hS,hrow,hnil,hb⟩
 have e1:ss.mergeSort (fun x y=>decide (x≤y))=l.map (·.s):=(mergeSort_of_perm (hS.trans hp.symm)).trans (Zd0 hl)
 have e2:ss.length=(l.map (·.s)).length:=(hS.trans hp.symm).length_eq
 have b0:Below w.heap.size w (w.alloc (.cells #[.map (some b)] 71)):=(Below.refl _ w).alloc (Nat.le_refl _) _
 have e3:(l.map (·.s)).map encStr=(l.map (·.s)).map tV:=rfl
 rw [e1,e2,e3]at hrow
 exact⟨v,rfl,⟨Z4k hrow,fun r hr=>by have:=(hrow.lt r hr).1;have:=b0.size;omega⟩,Z00q b0 hb (Nat.le_refl _)⟩
set_option maxRecDepth 100000 in
set_option maxHeartbeats 2000000 in
theorem Z8x (w:World):
 Calls Tryz.prog 79 #[.func (.func 113) #[] #[.pointer (some ⟨w.heap.size,0,none⟩)]] (w.alloc (.cells #[.map none] 71)) fun e w'=>∃ v,e= .returned v∧OwT w.heap.size w' v []∧Below w.heap.size w w':=by
 refine(callsIn_wide (n:=5)).1 ?_
 have hseq:SeqGives Fence.wide 2 Tryz.prog 113 #[.pointer (some ⟨w.heap.size,0,none⟩)] encStr (fun ss:List (List UInt8)=>ss= []) 0 (w.alloc (.cells #[.map none] 71)):=
  AnyZ.keys_gives_nil (ρ:=YtdnjddpfcgginaaGreat.keysT_ren) { YtdnjddpfcgginaaGreat.keysT with} Fence.wide _ trivial rfl w.heap.size _ (by simp) (by simp)
 have cS:=AnyZ.sorted_in YtdnjddpfcgginaaGreat.sortedT Fence.wide 5 trivial trivial trivial trivial rfl (by omega) (Zbt _) (enters_of Tryz.func112 (by kernel_rfl) rfl) 113 #[.pointer (some ⟨w.heap.size,0,none⟩)] trivial (enters_of Tryz.func113 (by kernel_rfl) rfl) _ 0 (Nat.zero_le _) (by omega) _ hseq
 change CallsIn _ _ Tryz.prog 79 _ _ _ at cS
 refine cS.mono ?_
 rintro e w' ⟨v,ss,rfl,hS,hrow,hnil,hb⟩
 subst hS
 have b0:Below w.heap.size w (w.alloc (.cells #[.map none] 71)):=(Below.refl _ w).alloc (Nat.le_refl _) _
 refine⟨v,rfl,?_,Z00q b0 hb (Nat.le_refl _)⟩
 rw [hnil.2 rfl]
 exact OwT.none _
theorem Z9s {w:World} {b n:Nat} {l:List Ent} (h:MpT w b n l):
 Calls Tryz.prog 38 #[.map (some b)] w fun e w'=>∃ b',e= .returned (.map (some b'))∧w.heap.size≤b'∧MpT w' b' n l∧Below w.heap.size w w':=by
 obtain⟨D,h1,h2⟩:=h
 have:=AnyW.maps_Clone_owns YtdnjddpfcgginaaGreat.cloneT 9 Z1s b n D w h1
 refine Calls.mono this ?_
 rintro e w' ⟨rfl,k1,k2,k3⟩
 exact⟨_,rfl,Nat.le_refl _,⟨D,k1,h2⟩,k3⟩
set_option maxRecDepth 100000
theorem uMn:Tryz.prog.underlying 68=some (.map 3 74):=by kernel_rfl
theorem zPn (w:World):(zeroValue 74).run Tryz.prog w= .ok (.pointer none) w:=by kernel_rfl
def OwD (w:World) (v:Value) (d:List Int):Prop:=w.ownsRow 0 5 1 v d.length (d.map (Value.int .u8))
section
variable {w w' : World} {v : Value} {d : List Int} {F : Nat → Prop}
theorem OwD.nil (w:World):OwD w (.slice none 0 0) []:=⟨rfl, .inl ⟨rfl,rfl⟩⟩
theorem OwD.step (h:OwD w v d) (k:Stp F w w') (hF:∀ r,v.ownBlock=some r→¬F r):OwD w' v d:=Z4j h k hF
theorem OwD.later (h:OwD w v d) (k:Below w.heap.size w w'):OwD w' v d:=Z61 h k
theorem OwD.shape (h:OwD w v d):∃ s:Sv,v=s.v∧s.n=d.length:=by
 rcases h.2 with⟨rfl,h2⟩ | ⟨g,cap,cur,rfl,_⟩
 · exact⟨⟨none,0,0⟩,rfl,h2.symm⟩
 · exact⟨⟨_,_,_⟩,rfl,rfl⟩
end
def mo (k:Int) (b:Nat):Option Nat:=if k=2 then some b else none
def ndC (y:Nd) (s:Sv) (b:Nat):List Value:= [.int .i64 y.k, .int .i64 y.ln,s.v, .map (mo y.k b)]
def nF (q:Int→Nat) (Z:Tz):Int→Option Value:=fun i=>if (Z.nd i).k=0 then none else some (.pointer (some ⟨q i,0,none⟩))
def trC (mb ob:Nat) (Z:Tz):List Value:= [.map (some mb), .int .i64 (Z.top - 1), .pointer (some ⟨ob,0,none⟩)]
structure Tw (w:World) (tg:Nat→Nat) (g mb ob:Nat) (q nb:Int→Nat) (sv:Int→Sv) (B:Nat) (Z:Tz):Prop where
 low:∀ x,tg x≠0→x < w.heap.size
 lv:∀ i,(Z.nd i).k≠0→1≤i
 tr:Cs w g (trC mb ob Z)
 tt:tg g=1
 mp:MpI Tryz.prog 3 w mb (nF q Z)
 mt:tg mb=2
 fd:∃ U,Fd w U ob Z.t∧∀ x,U x→tg x=3
 nd:∀ i,(Z.nd i).k≠0→tg (q i)=3 * i.toNat+4∧Cs w (q i) (ndC (Z.nd i) (sv i) (nb i))
 dt:∀ i,(Z.nd i).k≠0→OwD w (sv i).v (Z.nd i).d∧∀ r,(sv i).v.ownBlock=some r→tg r=3 * i.toNat+5
 nm:∀ i,(Z.nd i).k=2→tg (nb i)=3 * i.toNat+6∧MpT w (nb i) B (Z.nd i).nm
section
variable {w w' : World} {tg tg' : Nat → Nat} {g mb ob B B' : Nat} {q nb : Int → Nat} {sv : Int → Sv} {Z : Tz} {F : Nat → Prop} {i : Int}
theorem Tw.step (h:Tw w tg g mb ob q nb sv B Z) (k:Stp F w w') (hF:∀ x,tg x≠0→¬F x):Tw w' tg g mb ob q nb sv B Z:=by
 have t1:=h.tt
 have t2:=h.mt
 refine⟨fun x hx=>Nat.lt_of_lt_of_le (h.low x hx) k.size,h.lv,h.tr.step k (hF g (by omega)),t1,h.mp.step k (hF mb (by omega)),t2,?_,fun i hi=>?_,fun i hi=>?_,fun i hi=>?_⟩
 · obtain⟨U,h1,h2⟩:=h.fd
   exact⟨U,h1.step k (fun x hx=>hF x (by have:=h2 x hx;omega)),h2⟩
 · obtain⟨h1,h2⟩:=h.nd i hi;exact⟨h1,h2.step k (hF _ (by omega))⟩
 · obtain⟨h1,h2⟩:=h.dt i hi;exact⟨h1.step k (fun r hr=>hF r (by have:=h2 r hr;omega)),h2⟩
 · obtain⟨h1,h2⟩:=h.nm i hi;exact⟨h1,h2.step k (hF _ (by omega))⟩
theorem Tw.later (h:Tw w tg g mb ob q nb sv B Z) (k:Below w.heap.size w w'):Tw w' tg g mb ob q nb sv B Z:=h.step (Stp.of_below k (fun _=>False)) (fun _ _=>id)
theorem Tw.more (h:Tw w tg g mb ob q nb sv B Z) (hB:B≤B'):Tw w tg g mb ob q nb sv B' Z:=
 ⟨h.low,h.lv,h.tr,h.tt,h.mp,h.mt,h.fd,h.nd,h.dt,fun i hi=>by obtain⟨h1,h2⟩:=h.nm i hi;exact⟨h1,h2.mono hB⟩⟩
theorem Tw.up (h:Tw w tg g mb ob q nb sv B Z) (hl:1≤i∧i.toNat < Z.N.length) (y:Nd) (s1:Sv) (hB:B≤B') (k:Stp F w w') (hF:∀ x,F x→tg x=2∨tg x=3 * i.toNat+4∨tg x=3 * i.toNat+5∨tg x=3 * i.toNat+6)
 (ht:∀ x,x < w.heap.size→tg' x=tg x) (hlow:∀ x,tg' x≠0→x < w'.heap.size)
 (hmp:MpI Tryz.prog 3 w' mb (nF q (Z.up i y)))
 (hnd:y.k≠0→tg (q i)=3 * i.toNat+4∧Cs w' (q i) (ndC y s1 (nb i)))
 (hdt:y.k≠0→OwD w' s1.v y.d∧∀ r,s1.v.ownBlock=some r→tg' r=3 * i.toNat+5)
 (hnm:y.k=2→tg (nb i)=3 * i.toNat+6∧MpT w' (nb i) B' y.nm) (hq:y.k≠0→q i < w.heap.size) (hb:y.k=2→nb i < w.heap.size):
 Tw w' tg' g mb ob q nb (fun j=>if j=i then s1 else sv j) B' (Z.up i y):=by
 have t1:=h.tt
 have t2:=h.mt
 have N:=fun j=>Z20 (x:=y) hl.2 j
 have lt:∀ x,tg x≠0→tg' x=tg x:=fun x hx=>ht x (h.low x hx)
 have lv':∀ j,((Z.up i y).nd j).k≠0→1≤j:=fun j hj=>by
  rw [N j]at hj
  by_cases e:j.toNat=i.toNat
  · omega
  · rw [if_neg e]at hj;exact h.lv j hj
 have eqi:∀ j:Int,j.toNat=i.toNat→j=i:=fun j e=>by omega
 have off:∀ j:Int,j.toNat≠i.toNat→∀ c,(c=4∨c=5∨c=6)→∀ x,tg x=3 * j.toNat+c→¬F x:=fun j hj c hc x hx hFx=>by
  have:=hF x hFx
  omega
 refine⟨hlow,lv',?_,by rw [lt g (by omega)];exact t1,hmp,by rw [lt mb (by omega)];exact t2,?_,fun j hj=>?_,fun j hj=>?_,fun j hj=>?_⟩
 · have:=h.tr.step k (fun hFg=>by have:=hF g hFg;omega)
   unfold trC Tz.top at this ⊢
   rw [up_len];exact this
 · obtain⟨U,h1,h2⟩:=h.fd
   exact⟨U,h1.step k (fun x hx hFx=>by have:=h2 x hx;have:=hF x hFx;omega),fun x hx=>by rw [lt x (by have:=h2 x hx;omega)];exact h2 x hx⟩
 · have hj1:=lv' j hj
   rw [N j]at hj ⊢
   by_cases e:j.toNat=i.toNat
   · rw [if_pos e]at hj ⊢
     obtain rfl:=eqi j e
     obtain⟨h1,h2⟩:=hnd hj
     simp only [if_true]
     exact⟨by rw [ht _ (hq hj)];exact h1,h2⟩
   · rw [if_neg e]at hj ⊢
     obtain⟨h1,h2⟩:=h.nd j hj
     have e2:¬j=i:=fun w=>e (by rw [w])
     simp only [if_neg e2]
     exact⟨by rw [lt _ (by omega)];exact h1,h2.step k (off j e 4 (by omega) _ h1)⟩
 · have hj1:=lv' j hj
   rw [N j]at hj ⊢
   by_cases e:j.toNat=i.toNat
   · rw [if_pos e]at hj ⊢
     obtain rfl:=eqi j e
     obtain⟨h1,h2⟩:=hdt hj
     simp only [if_true]
     exact⟨h1,h2⟩
   · rw [if_neg e]at hj ⊢
     obtain⟨h1,h2⟩:=h.dt j hj
     have e2:¬j=i:=fun w=>e (by rw [w])
     simp only [if_neg e2]
     exact⟨h1.step k (fun r hr=>off j e 5 (by omega) r (h2 r hr)),fun r hr=>by rw [lt r (by have:=h2 r hr;omega)];exact h2 r hr⟩
 · have hj1:=lv' j (by rw [hj];decide)
   rw [N j]at hj ⊢
   by_cases e:j.toNat=i.toNat
   · rw [if_pos e]at hj ⊢
     obtain rfl:=eqi j e
     obtain⟨h1,h2⟩:=hnm hj
     exact⟨by rw [ht _ (hb hj)];exact h1,h2⟩
   · rw [if_neg e]at hj ⊢
     obtain⟨h1,h2⟩:=h.nm j hj
     exact⟨by rw [lt _ (by omega)];exact h1,(h2.step k (off j e 6 (by omega) _ h1)).mono hB⟩
theorem Zgw (hl:1≤i∧i.toNat < Z.N.length) (y:Nd) (hy:y.k=(Z.nd i).k):nF q (Z.up i y)=nF q Z:=by
 funext j
 unfold nF
 rw [Z20 hl.2 j]
 by_cases e:j.toNat=i.toNat
 · rw [if_pos e]
   have e2:Z.nd j=Z.nd i:=by unfold Tz.nd;rw [e]
   rw [hy,e2]
 · rw [if_neg e]
theorem nF_f (hl:1≤i∧i.toNat < Z.N.length) {a:Int} {b:List Int} {c:List Ent} :nF q (Z.up i ⟨(Z.nd i).k,a,b,c⟩)=nF q Z:=Zgw hl _ rfl
theorem Ze3 (hl:1≤i∧i.toNat < Z.N.length):nF q (Z.up i Nd.zero)=upd (nF q Z) i none:=by
 funext j
 unfold nF upd
 rw [Z20 hl.2 j]
 by_cases e:j=i
 · subst e;rw [if_pos rfl,if_pos rfl];simp [Nd.zero]
 · have e2:¬j.toNat=i.toNat:=fun w=>e (by omega)
   rw [if_neg e2,if_neg e]
theorem Tw.names (h:Tw w tg g mb ob q nb sv B Z) (hd:(Z.nd i).k=2) (hi:i.toNat < Z.N.length) {l:List Ent} (hB:B≤B') (hM:MpT w' (nb i) B' l) (k:Stp (fun x=>x=nb i) w w'):Tw w' tg g mb ob q nb sv B' (Z.up i ⟨(Z.nd i).k,(Z.nd i).ln,(Z.nd i).d,l⟩):=by
 have hk:(Z.nd i).k≠0:=by rw [hd];decide
 have hl:=h.lv i hk
 obtain⟨n1,n2⟩:=h.nd i hk
 obtain⟨d1,d2⟩:=h.dt i hk
 obtain⟨m1,m2⟩:=h.nm i hd
 have :=h.up (tg':=tg) ⟨hl,hi⟩ ⟨(Z.nd i).k,(Z.nd i).ln,(Z.nd i).d,l⟩ (sv i) hB k (fun x e=>by subst e;omega) (fun _ _=>rfl) (fun x hx=>Nat.lt_of_lt_of_le (h.low x hx) k.size)
  (by rw [nF_f ⟨hl,hi⟩];exact h.mp.step k (fun e=>by have:=h.mt;rw [e]at this;omega))
  (fun _=>⟨n1,n2.step k (fun e=>by rw [e]at n1;omega)⟩) (fun _=>⟨d1.step k (fun r hr e=>by have:=d2 r hr;rw [e]at this;omega),d2⟩) (fun _=>⟨m1,hM⟩) (fun _=>n2.lt) (fun _=>m2.lt)
 have e:(fun j=>if j=i then sv i else sv j)=sv:=by funext j;by_cases e:j=i;rw [if_pos e,e];rw [if_neg e]
 rwa [e]at this
theorem Tw.links (h:Tw w tg g mb ob q nb sv B Z) (hk:(Z.nd i).k≠0) (hi:i.toNat < Z.N.length) (y:Int):Tw (w.setCell ⟨q i,1,none⟩ (.int .i64 y)) tg g mb ob q nb sv B (Z.up i ⟨(Z.nd i).k,y,(Z.nd i).d,(Z.nd i).nm⟩):=by
 have hl:=h.lv i hk
 obtain⟨n1,n2⟩:=h.nd i hk
 obtain⟨d1,d2⟩:=h.dt i hk
 have k:Stp (fun x=>x=q i) w (w.setCell ⟨q i,1,none⟩ (.int .i64 y)):=(Stp.refl (fun x=>x=q i) w).setCell (p:=⟨q i,1,none⟩) (.inl rfl) _
 have :=h.up (tg':=tg) ⟨hl,hi⟩ ⟨(Z.nd i).k,y,(Z.nd i).d,(Z.nd i).nm⟩ (sv i) (Nat.le_refl B) k (fun x e=>by subst e;omega) (fun _ _=>rfl) (fun x hx=>Nat.lt_of_lt_of_le (h.low x hx) k.size)
  (by rw [nF_f ⟨hl,hi⟩];exact h.mp.step k (fun e=>by have:=h.mt;rw [e]at this;omega))
  (fun _=>⟨n1,n2.set 1 _ rfl⟩) (fun _=>⟨d1.step k (fun r hr e=>by have:=d2 r hr;rw [e]at this;omega),d2⟩)
  (fun e=>by obtain⟨m1,m2⟩:=h.nm i e;exact⟨m1,m2.step k (fun e=>by rw [e]at m1;omega)⟩) (fun _=>n2.lt) (fun e=>(h.nm i e).2.lt)
 have e:(fun j=>if j=i then sv i else sv j)=sv:=by funext j;by_cases e:j=i;rw [if_pos e,e];rw [if_neg e]
 rwa [e]at this
theorem Tw.less (h:Tw w tg g mb ob q nb sv B Z) (hl:1≤i∧i.toNat < Z.N.length) (hM:MpI Tryz.prog 3 w' mb (upd (nF q Z) i none)) (k:Stp (fun x=>x=mb) w w'):Tw w' tg g mb ob q nb (fun j=>if j=i then Sv.nil else sv j) B (Z.up i Nd.zero):=by
 refine h.up (tg':=tg) hl Nd.zero Sv.nil (Nat.le_refl B) k (fun x e=>by subst e;have:=h.mt;omega) (fun _ _=>rfl) (fun x hx=>Nat.lt_of_lt_of_le (h.low x hx) k.size) (by rw [Ze3 hl];exact hM)
  (fun e=>absurd rfl e) (fun e=>absurd rfl e) (fun e=>by cases e) (fun e=>absurd rfl e) (fun e=>by cases e)
theorem Tw.bytes (h:Tw w tg g mb ob q nb sv B Z) (hk:(Z.nd i).k≠0) (hi:i.toNat < Z.N.length) {d:List Int} (hO:OwD w' (sv i).v d) (k:Stp (fun x=>(sv i).v.ownBlock=some x) w w'):Tw w' tg g mb ob q nb sv B (Z.dat i d):=by
 have hl:=h.lv i hk
 obtain⟨n1,n2⟩:=h.nd i hk
 obtain⟨d1,d2⟩:=h.dt i hk
 have :=h.up (tg':=tg) ⟨hl,hi⟩ ⟨(Z.nd i).k,(Z.nd i).ln,d,(Z.nd i).nm⟩ (sv i) (Nat.le_refl B) k (fun x e=>by have:=d2 x e;omega) (fun _ _=>rfl) (fun x hx=>Nat.lt_of_lt_of_le (h.low x hx) k.size)
  (by rw [nF_f ⟨hl,hi⟩];exact h.mp.step k (fun e=>by have:=d2 _ e;have:=h.mt;omega))
  (fun _=>⟨n1,n2.step k (fun e=>by have:=d2 _ e;omega)⟩) (fun _=>⟨hO,d2⟩)
  (fun e=>by obtain⟨m1,m2⟩:=h.nm i e;exact⟨m1,m2.step k (fun e=>by have:=d2 _ e;omega)⟩) (fun _=>n2.lt) (fun e=>(h.nm i e).2.lt)
 have e:(fun j=>if j=i then sv i else sv j)=sv:=by funext j;by_cases e:j=i;rw [if_pos e,e];rw [if_neg e]
 rwa [e]at this
theorem Tw.cut (h:Tw w tg g mb ob q nb sv B Z) (hk:(Z.nd i).k≠0) (hi:i.toNat < Z.N.length) {d:List Int} {s1:Sv} (hO:OwD w s1.v d) (hN:∀ r,s1.v.ownBlock=some r→tg r=0):
 Tw (w.setCell ⟨q i,2,none⟩ s1.v) (fun x=>if s1.v.ownBlock=some x then 3 * i.toNat+5 else tg x) g mb ob q nb (fun j=>if j=i then s1 else sv j) B (Z.dat i d):=by
 have hl:=h.lv i hk
 obtain⟨n1,n2⟩:=h.nd i hk
 have k:Stp (fun x=>x=q i) w (w.setCell ⟨q i,2,none⟩ s1.v):=(Stp.refl (fun x=>x=q i) w).setCell (p:=⟨q i,2,none⟩) (.inl rfl) _
 have hlt:∀ r,s1.v.ownBlock=some r→r < w.heap.size:=fun r hr=>(hO.lt r hr).2
 -- the marks,laid first
 have h2:Tw w (fun x=>if s1.v.ownBlock=some x then 3 * i.toNat+5 else tg x) g mb ob q nb sv B Z:=by
  have same:∀ x,tg x≠0→(if s1.v.ownBlock=some x then 3 * i.toNat+5 else tg x)=tg x:=fun x hx=>by
   rw [if_neg (fun e=>hx (hN x e))]
  refine⟨fun x hx=>?_,h.lv,h.tr,by rw [same g (by have:=h.tt;omega)];exact h.tt,h.mp,by rw [same mb (by have:=h.mt;omega)];exact h.mt,?_,fun j hj=>?_,fun j hj=>?_,fun j hj=>?_⟩
  · by_cases e:s1.v.ownBlock=some x
    · exact hlt x e
    · rw [if_neg e]at hx;exact h.low x hx
  · obtain⟨U,u1,u2⟩:=h.fd
    exact⟨U,u1,fun x hx=>by rw [same x (by have:=u2 x hx;omega)];exact u2 x hx⟩
  · obtain⟨u1,u2⟩:=h.nd j hj;exact⟨by rw [same _ (by omega)];exact u1,u2⟩
  · obtain⟨u1,u2⟩:=h.dt j hj;exact⟨u1,fun r hr=>by rw [same r (by have:=u2 r hr;omega)];exact u2 r hr⟩
  · obtain⟨u1,u2⟩:=h.nm j hj;exact⟨by rw [same _ (by omega)];exact u1,u2⟩
 obtain⟨n3,n4⟩:=h2.nd i hk
 refine h2.up ⟨hl,hi⟩ ⟨(Z.nd i).k,(Z.nd i).ln,d,(Z.nd i).nm⟩ s1 (Nat.le_refl B) k (fun x e=>by subst e;omega) (fun _ _=>rfl) (fun x hx=>Nat.lt_of_lt_of_le (h2.low x hx) k.size)
  (by rw [nF_f ⟨hl,hi⟩];exact h.mp.step k (fun e=>by have:=h.mt;rw [e]at this;omega))
  (fun _=>⟨n3,n2.set 2 _ rfl⟩) (fun _=>⟨hO.step k (fun r hr e=>by have:=hN r hr;rw [e]at this;omega),fun r hr=>by rw [if_pos hr]⟩)
  (fun e=>by obtain⟨m1,m2⟩:=h2.nm i e;exact⟨m1,m2.step k (fun e=>by rw [e]at m1;omega)⟩) (fun _=>n2.lt) (fun e=>(h.nm i e).2.lt)
theorem Tw.table (h:Tw w tg g mb ob q nb sv B Z) {U U':Nat→Prop} {t:FT} (hU:∀ x,U x→tg x=3) (hF:Fd w' U' ob t) (k:Stp U w w') (hG:Grew U U' w w'):∃ tg',Tw w' tg' g mb ob q nb sv B (Z.fds t)∧(∀ x,x < w.heap.size→tg' x=tg x)∧∀ x,tg' x≠0→tg x≠0∨w.heap.size≤x:=by
 classical
 refine⟨fun x=>if U' x∧w.heap.size≤x then 3 else tg x,?_,fun x hx=>by dsimp only;rw [if_neg (fun e=>by omega)],fun x hx=>?_⟩
 · have same:∀ x,tg x≠0→(if U' x∧w.heap.size≤x then 3 else tg x)=tg x:=fun x hx=>by
    rw [if_neg (fun e=>by have:=h.low x hx;omega)]
   have off:∀ x,tg x≠3→¬U x:=fun x hx e=>hx (hU x e)
   refine⟨fun x hx=>?_,h.lv,h.tr.step k (off g (by have:=h.tt;omega)),by rw [same g (by have:=h.tt;omega)];exact h.tt,h.mp.step k (off mb (by have:=h.mt;omega)),by rw [same mb (by have:=h.mt;omega)];exact h.mt,⟨U',hF,fun x hx=>?_⟩,fun j hj=>?_,fun j hj=>?_,fun j hj=>?_⟩
   · by_cases e:U' x∧w.heap.size≤x
     · exact hF.low x e.1
     · rw [if_neg e]at hx;exact Nat.lt_of_lt_of_le (h.low x hx) k.size
   · rcases hG x hx with e | e
     · have:=hU x e
       rw [same x (by omega)];exact this
     · rw [if_pos ⟨hx,e.1⟩]
   · obtain⟨u1,u2⟩:=h.nd j hj;exact⟨by rw [same _ (by omega)];exact u1,u2.step k (off _ (by omega))⟩
   · obtain⟨u1,u2⟩:=h.dt j hj;exact⟨u1.step k (fun r hr=>off r (by have:=u2 r hr;omega)),fun r hr=>by rw [same r (by have:=u2 r hr;omega)];exact u2 r hr⟩
   · obtain⟨u1,u2⟩:=h.nm j hj;exact⟨by rw [same _ (by omega)];exact u1,u2.step k (off _ (by omega))⟩
 · by_cases e:U' x∧w.heap.size≤x
   · exact .inr e.2
   · dsimp only at hx;rw [if_neg e]at hx;exact .inl hx
end
def Tx (w:World) (U:Nat→Prop) (g:Nat) (q:Int→Nat) (B:Nat) (Z:Tz):Prop:=∃ tg mb ob nb sv,Tw w tg g mb ob q nb sv B Z∧∀ x,U x↔tg x≠0
def TxG (U:Nat→Prop) (g:Nat) (q:Int→Nat) (B:Nat) (Z:Tz) (w w':World):Prop:=∃ U',Tx w' U' g q B Z∧Stp U w w'∧Grew U U' w w'
section
variable {w w' w'' : World} {g B B' : Nat} {U U' F : Nat → Prop} {q : Int → Nat} {Z Z' : Tz}
theorem Tx.step (h:Tx w U g q B Z) (k:Stp F w w') (hF:∀ x,U x→¬F x):Tx w' U g q B Z:=by
 obtain⟨tg,mb,ob,nb,sv,h1,h2⟩:=h
 exact⟨tg,mb,ob,nb,sv,h1.step k (fun x hx=>hF x ((h2 x).2 hx)),h2⟩
theorem Tx.later (h:Tx w U g q B Z) (k:Below w.heap.size w w'):Tx w' U g q B Z:=h.step (Stp.of_below k (fun _=>False)) (fun _ _=>id)
theorem Tx.low (h:Tx w U g q B Z):∀ x,U x→x < w.heap.size:=by
 obtain⟨tg,mb,ob,nb,sv,h1,h2⟩:=h
 exact fun x hx=>h1.low x ((h2 x).1 hx)
theorem TxG.refl (h:Tx w U g q B Z) (hb:Below w.heap.size w w'):TxG U g q B Z w w':=⟨U,h.later hb,Stp.of_below hb U,Grew.refl _ _ _⟩
theorem TxG.behind (hb:Below w.heap.size w w') (hU:∀ x,U x→x < w.heap.size) (h:TxG U g q B Z w' w''):TxG U g q B Z w w'':=by
 obtain⟨U',a1,a2,a3⟩:=h
 refine⟨U',a1,(Stp.of_below hb U).trans a2,fun x hx=>?_⟩
 rcases a3 x hx with e | e
 · exact .inl e
 · exact .inr ⟨Nat.le_trans hb.size e.1,e.2⟩
theorem Z4m {tg tg':Nat→Nat} {mb ob:Nat} {nb:Int→Nat} {sv:Int→Sv} (hU:∀ x,U x↔tg x≠0) (h':Tw w' tg' g mb ob q nb sv B Z') (k:Stp U w w') (hG:∀ x,tg' x≠0→tg x≠0∨w.heap.size≤x):TxG U g q B Z' w w':=
 ⟨fun x=>tg' x≠0,⟨tg',mb,ob,nb,sv,h',fun x=>Iff.rfl⟩,k,fun x hx=>by
   rcases hG x hx with e | e
   · exact .inl ((hU x).2 e)
   · exact .inr ⟨e,h'.low x hx⟩⟩
end
set_option maxRecDepth 100000
section
variable {w w' : World} {tg : Nat → Nat} {g mb ob B m n : Nat} {q nb : Int → Nat} {sv : Int → Sv} {Z : Tz} {F : Nat → Prop} {i : Int} {x : Int → Int}
theorem Z13 (hz:Z.okD m n x) (hm:m≤1000) (hk:(Z.nd i).k≠0):wfi i:=by
 have h1:=hz.live hk
 have h2:=hz.few
 exact Z22 (by omega)
theorem Tw.look (h:Tw w tg g mb ob q nb sv B Z) (hk:(Z.nd i).k≠0) (hi:wfi i):(Instr.lookup 68 (.map (some mb)) (.int .i64 i) false).run Tryz.prog w= .ok (.pointer (some ⟨q i,0,none⟩)) w:=by
 rw [h.mp.look Z7d uMn (zPn w) hi]
 unfold nF
 rw [if_neg hk];rfl
theorem Tw.lookN (h:Tw w tg g mb ob q nb sv B Z) (hk:(Z.nd i).k=0) (hi:wfi i):(Instr.lookup 68 (.map (some mb)) (.int .i64 i) false).run Tryz.prog w= .ok (.pointer none) w:=by
 rw [h.mp.look Z7d uMn (zPn w) hi]
 unfold nF
 rw [if_pos hk];rfl
theorem Tw.c0 (h:Tw w tg g mb ob q nb sv B Z):w.cell? ⟨g,0,none⟩=some (.map (some mb)):=h.tr.cell 0 _ rfl
theorem Tw.c1 (h:Tw w tg g mb ob q nb sv B Z):w.cell? ⟨g,1,none⟩=some (.int .i64 (Z.top - 1)):=h.tr.cell 1 _ rfl
theorem Tw.c2 (h:Tw w tg g mb ob q nb sv B Z):w.cell? ⟨g,2,none⟩=some (.pointer (some ⟨ob,0,none⟩)):=h.tr.cell 2 _ rfl
theorem Tw.n0 (h:Tw w tg g mb ob q nb sv B Z) (hk:(Z.nd i).k≠0):w.cell? ⟨q i,0,none⟩=some (.int .i64 (Z.nd i).k):=(h.nd i hk).2.cell 0 _ rfl
theorem Tw.n1 (h:Tw w tg g mb ob q nb sv B Z) (hk:(Z.nd i).k≠0):w.cell? ⟨q i,1,none⟩=some (.int .i64 (Z.nd i).ln):=(h.nd i hk).2.cell 1 _ rfl
theorem Tw.n2 (h:Tw w tg g mb ob q nb sv B Z) (hk:(Z.nd i).k≠0):w.cell? ⟨q i,2,none⟩=some (sv i).v:=(h.nd i hk).2.cell 2 _ rfl
theorem Tw.n3 (h:Tw w tg g mb ob q nb sv B Z) (hd:(Z.nd i).k=2):w.cell? ⟨q i,3,none⟩=some (.map (some (nb i))):=by
 have:=(h.nd i (by rw [hd];decide)).2.cell 3 _ rfl
 rw [this];unfold mo;rw [if_pos hd]
theorem Tw.n3' (h:Tw w tg g mb ob q nb sv B Z) (hk:(Z.nd i).k≠0) (hd:(Z.nd i).k≠2):w.cell? ⟨q i,3,none⟩=some (.map none):=by
 have:=(h.nd i hk).2.cell 3 _ rfl
 rw [this];unfold mo;rw [if_neg hd]
end
theorem Z1u {w:World} {U:Nat→Prop} {g B m n:Nat} {q:Int→Nat} {Z:Tz} {x:Int→Int} (h:Tx w U g q B Z) (hz:Z.okD m n x) (hm:m≤1000) {i:Int} (hk:(Z.nd i).k≠0):
 Calls Tryz.prog 104 #[.pointer (some ⟨g,0,none⟩), .int .i64 i] w fun e w'=>e= .returned (.bool (decide ((Z.nd i).k=2)))∧w=w':=by
 obtain⟨tg,mb,ob,nb,sv,H,hU⟩:=h
 have c0:=H.c0
 have lo:=H.look hk (Z13 hz hm hk)
 have n0:=H.n0 hk
 generalize (Z.nd i).k=K at *
 clear hz H hU
 go_enter Tryz.func104,Tryz.ntmps104
 go_wp2
 go_returns
 exact⟨rfl,rfl⟩
theorem Z6z {w:World} {U:Nat→Prop} {g B m n:Nat} {q:Int→Nat} {Z:Tz} {x:Int→Int} (h:Tx w U g q B Z) (hz:Z.okD m n x) (hm:m≤1000) {i:Int} (hk:(Z.nd i).k≠0):
 Calls Tryz.prog 101 #[.pointer (some ⟨g,0,none⟩), .int .i64 i] w fun e w'=>e= .returned (.tuple #[])∧TxG U g q B (Z.gone i) w w':=by
 have h0:=h
 obtain⟨tg,mb,ob,nb,sv,H,hU⟩:=h
 have c0:=H.c0
 have c2:=H.c2
 have hwf:=Z13 hz hm hk
 have lo:=H.look hk hwf
 have n1:=H.n1 hk
 obtain⟨Uo,hFd,hUo⟩:=H.fd
 have hC:=Z4p hFd i
 by_cases e1:(Z.nd i).ln=0
 · rw [e1]at n1
   by_cases e2:fdCt Z.t i 8=0
   · have eg:Z.gone i=Z.up i Nd.zero:=by unfold Tz.gone;rw [if_pos ⟨e1,e2⟩]
     rw [eg]
     rw [e2]at hC
     have t0:Hid True:=trivial
     go_enter Tryz.func101,Tryz.ntmps101
     go_wp2_with (first
      | (go_at_call 132;refine hC.mono ?_;rintro e w1 ⟨rfl,b1⟩;clear hC
         have H1:=H.later b1
         have d0:=H1.c0)
      | (refine Zdh (by rfl) _ _ (by rfl) (by rfl) (by rfl) (fun ty=>H1.mp.drop Z7d uMn hwf ty) ?_;rintro w2 ⟨m2,s2⟩))
     first | go_end0 | refine bodyPost_ret (results_none rfl _ _ _) rfl ?_
     have k2:=Z3q s2
     have H2:=H1.less (hz.live hk) m2 k2
     refine⟨rfl,Z4m hU H2 ((Stp.of_below b1 U).next k2 (fun y e=>?_)) (fun y hy=> .inl hy)⟩
     subst e;exact .inl ((hU _).2 (by have:=H.mt;omega))
   · have eg:Z.gone i=Z:=by unfold Tz.gone;rw [if_neg (fun e=>e2 e.2)]
     rw [eg]
     generalize fdCt Z.t i 8=c at *
     go_enter Tryz.func101,Tryz.ntmps101
     go_wp2_with (go_at_call 132;refine hC.mono ?_;rintro e w1 ⟨rfl,b1⟩)
     first | go_end0 | refine bodyPost_ret (results_none rfl _ _ _) rfl ?_
     exact⟨rfl,TxG.refl h0 b1⟩
 · have eg:Z.gone i=Z:=by unfold Tz.gone;rw [if_neg (fun e=>e1 e.1)]
   rw [eg]
   generalize (Z.nd i).ln=c at *
   go_enter Tryz.func101,Tryz.ntmps101
   go_wp2
   first | go_end0 | refine bodyPost_ret (results_none rfl _ _ _) rfl ?_
   exact⟨rfl,TxG.refl h0 (Below.refl _ _)⟩
end Go.Proofs.YtdnjddpfcgginaaGreat
