/-
  Texts of my own, joined: no statement is proved here.
-/
import Derived.Shelf.SlGeneric
import Derived.Shelf.Sort.Plain
import Derived.Ground.Names2Prog
import Derived.Ground.GgzProg
import Derived.Ground.SlmcProg
import Derived.Shelf.Slices.Turned
import Derived.Shelf.Slices.Clone
import Derived.Shelf.Slices.Delete
import Derived.Shelf.Slices.Reverse
import Derived.Shelf.Slices.SearchI
import Derived.Shelf.Slices.In.SortNone
import Derived.Shelf.SlIterI.Sorted
import Derived.Shelf.SlIterI.Keys
import Derived.Shelf.SlMaps.Clone
import Derived.Shelf.Spec.SlicesInsert
import Derived.Shelf.Spec.SlicesInsertGrow
import Derived.Test.YtineecopmifepaaGreatDoorRows
import Derived.Sort.OwnSortedInts
import Derived.Test.YtineecopmifepaaGreatDoorJal
import Derived.Test.YtineecopmifepaaGreatDoorJav
import Derived.Test.YtineecopmifepaaGreatDoorJaw
namespace Go.Proofs
open Go.Shelf
def YtineecopmifepaaGreatDoor.lays189_ren : Go.Shelf.Ren := ⟨fun | 189 => 179 | 125 => 246 | 257 => 245 | 128 => 294 | 129 => 295 | 294 => 285 | 295 => 286 | 296 => 287 | 297 => 288 | 298 => 289 | 299 => 290 | 216 => 291 | 300 => 292 | 301 => 293 | 328 => 314 | 329 => 315 | 330 => 316 | 331 => 317 | 332 => 318 | 215 => 319 | 343 => 328 | n => n, fun | 28 => 44 | 3 => 3 | 46 => 300 | 0 => 0 | 51 => 83 | 53 => 141 | 4 => 4 | 183 => 320 | 182 => 319 | 131 => 165 | 5 => 5 | 9 => 9 | 218 => 341 | 222 => 345 | 228 => 356 | 229 => 81 | n => n, fun | n => n⟩
theorem YtineecopmifepaaGreatDoor.lays189 : Go.Proofs.Lays.n189 Tryz.prog YtineecopmifepaaGreatDoor.lays189_ren := {
  mixed := by kernel_rfl
  f125 := Tryz.func246.trans (congrArg some (by kernel_rfl))
  f128 := Tryz.func294.trans (congrArg some (by kernel_rfl))
  f129 := Tryz.func295.trans (congrArg some (by kernel_rfl))
  f189 := Tryz.func179.trans (congrArg some (by kernel_rfl))
  f215 := Tryz.func319.trans (congrArg some (by kernel_rfl))
  f216 := Tryz.func291.trans (congrArg some (by kernel_rfl))
  f257 := Tryz.func245.trans (congrArg some (by kernel_rfl))
  f294 := Tryz.func285.trans (congrArg some (by kernel_rfl))
  f295 := Tryz.func286.trans (congrArg some (by kernel_rfl))
  f296 := Tryz.func287.trans (congrArg some (by kernel_rfl))
  f297 := Tryz.func288.trans (congrArg some (by kernel_rfl))
  f298 := Tryz.func289.trans (congrArg some (by kernel_rfl))
  f299 := Tryz.func290.trans (congrArg some (by kernel_rfl))
  f300 := Tryz.func292.trans (congrArg some (by kernel_rfl))
  f301 := Tryz.func293.trans (congrArg some (by kernel_rfl))
  f328 := Tryz.func314.trans (congrArg some (by kernel_rfl))
  f329 := Tryz.func315.trans (congrArg some (by kernel_rfl))
  f330 := Tryz.func316.trans (congrArg some (by kernel_rfl))
  f331 := Tryz.func317.trans (congrArg some (by kernel_rfl))
  f332 := Tryz.func318.trans (congrArg some (by kernel_rfl))
  f343 := Tryz.func328.trans (congrArg some (by kernel_rfl))
  t0 := Tryz.underlying0
  a0 := Tryz.isAgg0
  z0 := Tryz.sizeOf0
  v0 := Tryz.zeroValue0
  t3 := Tryz.underlying3
  a3 := Tryz.isAgg3
  z3 := Tryz.sizeOf3
  v3 := Tryz.zeroValue3
  t4 := Tryz.underlying4
  a4 := Tryz.isAgg4
  z4 := Tryz.sizeOf4
  v4 := Tryz.zeroValue4
  t5 := Tryz.underlying5
  a5 := Tryz.isAgg5
  z5 := Tryz.sizeOf5
  v5 := Tryz.zeroValue5
  t9 := Tryz.underlying9
  a9 := Tryz.isAgg9
  z9 := Tryz.sizeOf9
  v9 := Tryz.zeroValue9
  t28 := Tryz.underlying44
  a28 := Tryz.isAgg44
  z28 := Tryz.sizeOf44
  v28 := Tryz.zeroValue44
  t46 := Tryz.underlying300
  a46 := Tryz.isAgg300
  z46 := Tryz.sizeOf300
  v46 := Tryz.zeroValue300
  t51 := Tryz.underlying83
  a51 := Tryz.isAgg83
  z51 := Tryz.sizeOf83
  v51 := Tryz.zeroValue83
  t53 := Tryz.underlying141
  a53 := Tryz.isAgg141
  z53 := Tryz.sizeOf141
  v53 := Tryz.zeroValue141
  t131 := Tryz.underlying165
  a131 := Tryz.isAgg165
  z131 := Tryz.sizeOf165
  v131 := Tryz.zeroValue165
  t182 := Tryz.underlying319
  a182 := Tryz.isAgg319
  z182 := Tryz.sizeOf319
  v182 := Tryz.zeroValue319
  t183 := Tryz.underlying320
  a183 := Tryz.isAgg320
  z183 := Tryz.sizeOf320
  v183 := Tryz.zeroValue320
  t218 := Tryz.underlying341
  a218 := Tryz.isAgg341
  z218 := Tryz.sizeOf341
  v218 := Tryz.zeroValue341
  t222 := Tryz.underlying345
  a222 := Tryz.isAgg345
  z222 := Tryz.sizeOf345
  v222 := Tryz.zeroValue345
  t228 := Tryz.underlying356
  a228 := Tryz.isAgg356
  z228 := Tryz.sizeOf356
  v228 := Tryz.zeroValue356
  t229 := Tryz.underlying81
  a229 := Tryz.isAgg81
  z229 := Tryz.sizeOf81
  v229 := Tryz.zeroValue81 }
def YtineecopmifepaaGreatDoor.lays112_ren : Go.Shelf.Ren := ⟨fun | 112 => 213 | n => n, fun | 28 => 44 | 3 => 3 | 4 => 4 | 0 => 0 | n => n, fun | n => n⟩
theorem YtineecopmifepaaGreatDoor.lays112 : Go.Proofs.Lays.n112 Tryz.prog YtineecopmifepaaGreatDoor.lays112_ren := {
  mixed := by kernel_rfl
  f112 := Tryz.func213.trans (congrArg some (by kernel_rfl))
  t0 := Tryz.underlying0
  a0 := Tryz.isAgg0
  z0 := Tryz.sizeOf0
  v0 := Tryz.zeroValue0
  t3 := Tryz.underlying3
  a3 := Tryz.isAgg3
  z3 := Tryz.sizeOf3
  v3 := Tryz.zeroValue3
  t4 := Tryz.underlying4
  a4 := Tryz.isAgg4
  z4 := Tryz.sizeOf4
  v4 := Tryz.zeroValue4
  t28 := Tryz.underlying44
  a28 := Tryz.isAgg44
  z28 := Tryz.sizeOf44
  v28 := Tryz.zeroValue44 }
def YtineecopmifepaaGreatDoor.lays108_ren : Go.Shelf.Ren := ⟨fun | 108 => 188 | n => n, fun | 28 => 44 | 3 => 3 | 0 => 0 | 4 => 4 | n => n, fun | n => n⟩
theorem YtineecopmifepaaGreatDoor.lays108 : Go.Proofs.Lays.n108 Tryz.prog YtineecopmifepaaGreatDoor.lays108_ren := {
  mixed := by kernel_rfl
  f108 := Tryz.func188.trans (congrArg some (by kernel_rfl))
  t0 := Tryz.underlying0
  a0 := Tryz.isAgg0
  z0 := Tryz.sizeOf0
  v0 := Tryz.zeroValue0
  t3 := Tryz.underlying3
  a3 := Tryz.isAgg3
  z3 := Tryz.sizeOf3
  v3 := Tryz.zeroValue3
  t4 := Tryz.underlying4
  a4 := Tryz.isAgg4
  z4 := Tryz.sizeOf4
  v4 := Tryz.zeroValue4
  t28 := Tryz.underlying44
  a28 := Tryz.isAgg44
  z28 := Tryz.sizeOf44
  v28 := Tryz.zeroValue44 }
def YtineecopmifepaaGreatDoor.lays23_ren : Go.Shelf.Ren := ⟨fun | 23 => 190 | n => n, fun | 22 => 44 | 3 => 3 | 4 => 4 | 0 => 0 | n => n, fun | n => n⟩
theorem YtineecopmifepaaGreatDoor.lays23 : Go.Proofs.Lays2.n23 Tryz.prog YtineecopmifepaaGreatDoor.lays23_ren := {
  mixed := by kernel_rfl
  f23 := Tryz.func190.trans (congrArg some (by kernel_rfl))
  t0 := Tryz.underlying0
  a0 := Tryz.isAgg0
  z0 := Tryz.sizeOf0
  v0 := Tryz.zeroValue0
  t3 := Tryz.underlying3
  a3 := Tryz.isAgg3
  z3 := Tryz.sizeOf3
  v3 := Tryz.zeroValue3
  t4 := Tryz.underlying4
  a4 := Tryz.isAgg4
  z4 := Tryz.sizeOf4
  v4 := Tryz.zeroValue4
  t22 := Tryz.underlying44
  a22 := Tryz.isAgg44
  z22 := Tryz.sizeOf44
  v22 := Tryz.zeroValue44
  i3 := by kernel_rfl }
def YtineecopmifepaaGreatDoor.lays25_ren : Go.Shelf.Ren := ⟨fun | 25 => 271 | 31 => 291 | 32 => 305 | 37 => 319 | n => n, fun | 22 => 44 | 3 => 3 | 4 => 4 | 40 => 300 | 0 => 0 | n => n, fun | n => n⟩
theorem YtineecopmifepaaGreatDoor.lays25 : Go.Proofs.Lays2.n25 Tryz.prog YtineecopmifepaaGreatDoor.lays25_ren := {
  mixed := by kernel_rfl
  f25 := Tryz.func271.trans (congrArg some (by kernel_rfl))
  f31 := Tryz.func291.trans (congrArg some (by kernel_rfl))
  f32 := Tryz.func305.trans (congrArg some (by kernel_rfl))
  f37 := Tryz.func319.trans (congrArg some (by kernel_rfl))
  t0 := Tryz.underlying0
  a0 := Tryz.isAgg0
  z0 := Tryz.sizeOf0
  v0 := Tryz.zeroValue0
  t3 := Tryz.underlying3
  a3 := Tryz.isAgg3
  z3 := Tryz.sizeOf3
  v3 := Tryz.zeroValue3
  t4 := Tryz.underlying4
  a4 := Tryz.isAgg4
  z4 := Tryz.sizeOf4
  v4 := Tryz.zeroValue4
  t22 := Tryz.underlying44
  a22 := Tryz.isAgg44
  z22 := Tryz.sizeOf44
  v22 := Tryz.zeroValue44
  t40 := Tryz.underlying300
  a40 := Tryz.isAgg300
  z40 := Tryz.sizeOf300
  v40 := Tryz.zeroValue300 }
def YtineecopmifepaaGreatDoor.lays15_ren : Go.Shelf.Ren := ⟨fun | 15 => 96 | n => n, fun | 22 => 44 | 3 => 3 | 4 => 4 | n => n, fun | n => n⟩
theorem YtineecopmifepaaGreatDoor.lays15 : Go.Proofs.Lays2.n15 Tryz.prog YtineecopmifepaaGreatDoor.lays15_ren := {
  mixed := by kernel_rfl
  f15 := Tryz.func96.trans (congrArg some (by kernel_rfl))
  t3 := Tryz.underlying3
  a3 := Tryz.isAgg3
  z3 := Tryz.sizeOf3
  v3 := Tryz.zeroValue3
  t4 := Tryz.underlying4
  a4 := Tryz.isAgg4
  z4 := Tryz.sizeOf4
  v4 := Tryz.zeroValue4
  t22 := Tryz.underlying44
  a22 := Tryz.isAgg44
  z22 := Tryz.sizeOf44
  v22 := Tryz.zeroValue44
  i3 := by kernel_rfl }
def YtineecopmifepaaGreatDoor.lays21_ren : Go.Shelf.Ren := ⟨fun | 21 => 189 | 27 => 253 | 28 => 254 | 35 => 299 | 39 => 213 | n => n, fun | 22 => 44 | 3 => 3 | 4 => 4 | 0 => 0 | n => n, fun | n => n⟩
theorem YtineecopmifepaaGreatDoor.lays21 : Go.Proofs.Lays2.n21 Tryz.prog YtineecopmifepaaGreatDoor.lays21_ren := {
  mixed := by kernel_rfl
  f21 := Tryz.func189.trans (congrArg some (by kernel_rfl))
  f27 := Tryz.func253.trans (congrArg some (by kernel_rfl))
  f28 := Tryz.func254.trans (congrArg some (by kernel_rfl))
  f35 := Tryz.func299.trans (congrArg some (by kernel_rfl))
  f39 := Tryz.func213.trans (congrArg some (by kernel_rfl))
  t0 := Tryz.underlying0
  a0 := Tryz.isAgg0
  z0 := Tryz.sizeOf0
  v0 := Tryz.zeroValue0
  t3 := Tryz.underlying3
  a3 := Tryz.isAgg3
  z3 := Tryz.sizeOf3
  v3 := Tryz.zeroValue3
  t4 := Tryz.underlying4
  a4 := Tryz.isAgg4
  z4 := Tryz.sizeOf4
  v4 := Tryz.zeroValue4
  t22 := Tryz.underlying44
  a22 := Tryz.isAgg44
  z22 := Tryz.sizeOf44
  v22 := Tryz.zeroValue44
  i3 := by kernel_rfl }
def YtineecopmifepaaGreatDoor.cloneM_ren : Go.Shelf.Ren := ⟨fun | 5 => 155 | 7 => 228 | n => n, fun | 23 => 202 | 25 => 3 | 3 => 46 | 4 => 4 | 20 => 20 | n => n, fun | n => n⟩
theorem YtineecopmifepaaGreatDoor.cloneM : Go.Proofs.SlLaysW.n5 Tryz.prog YtineecopmifepaaGreatDoor.cloneM_ren := {
  mixed := by kernel_rfl
  f5 := ⟨Tryz.f155.name, by decide, Tryz.func155.trans (congrArg some (by kernel_rfl))⟩
  f7 := Tryz.func228.trans (congrArg some (by kernel_rfl))
  t4 := Tryz.underlying4
  a4 := Tryz.isAgg4
  z4 := Tryz.sizeOf4
  v4 := Tryz.zeroValue4
  t20 := Tryz.underlying20
  a20 := Tryz.isAgg20
  z20 := Tryz.sizeOf20
  v20 := Tryz.zeroValue20
  t23 := Tryz.underlying202
  a23 := Tryz.isAgg202
  z23 := Tryz.sizeOf202
  v23 := Tryz.zeroValue202 }
def YtineecopmifepaaGreatDoor.keysA_ren : Go.Shelf.Ren := ⟨fun | 7 => 218 | 10 => 274 | n => n, fun | 23 => 203 | 26 => 3 | 3 => 44 | 28 => 285 | 0 => 0 | 27 => 284 | 33 => 95 | 4 => 4 | n => n, fun | n => n⟩
theorem YtineecopmifepaaGreatDoor.keysA : Go.Proofs.SlLaysZI.n7 Tryz.prog YtineecopmifepaaGreatDoor.keysA_ren := {
  mixed := by kernel_rfl
  f7 := ⟨Tryz.f218.name, by decide, Tryz.func218.trans (congrArg some (by kernel_rfl))⟩
  f10 := ⟨Tryz.f274.name, by decide, Tryz.func274.trans (congrArg some (by kernel_rfl))⟩
  t0 := Tryz.underlying0
  a0 := Tryz.isAgg0
  z0 := Tryz.sizeOf0
  v0 := Tryz.zeroValue0
  t4 := Tryz.underlying4
  a4 := Tryz.isAgg4
  z4 := Tryz.sizeOf4
  v4 := Tryz.zeroValue4
  t23 := Tryz.underlying203
  a23 := Tryz.isAgg203
  z23 := Tryz.sizeOf203
  v23 := Tryz.zeroValue203
  t26 := Tryz.underlying3
  a26 := Tryz.isAgg3
  z26 := Tryz.sizeOf3
  v26 := Tryz.zeroValue3
  t27 := Tryz.underlying284
  a27 := Tryz.isAgg284
  z27 := Tryz.sizeOf284
  v27 := Tryz.zeroValue284
  t28 := Tryz.underlying285
  a28 := Tryz.isAgg285
  z28 := Tryz.sizeOf285
  v28 := Tryz.zeroValue285
  t33 := Tryz.underlying95
  a33 := Tryz.isAgg95
  z33 := Tryz.sizeOf95
  v33 := Tryz.zeroValue95 }
def YtineecopmifepaaGreatDoor.sortedA_ren : Go.Shelf.Ren := ⟨fun | 6 => 217 | 8 => 273 | 9 => 179 | 11 => 306 | 13 => 246 | 12 => 245 | 23 => 294 | 24 => 295 | 14 => 285 | 15 => 286 | 16 => 287 | 17 => 288 | 18 => 289 | 19 => 290 | 20 => 291 | 21 => 292 | 22 => 293 | 25 => 314 | 26 => 315 | 27 => 316 | 28 => 317 | 29 => 318 | 30 => 319 | 31 => 328 | n => n, fun | 26 => 3 | 28 => 285 | 24 => 44 | 0 => 0 | 3 => 3 | 37 => 300 | 48 => 83 | 50 => 141 | 4 => 4 | 40 => 320 | 39 => 319 | 45 => 165 | 5 => 5 | 9 => 9 | 51 => 341 | 55 => 345 | 57 => 356 | 58 => 81 | 33 => 95 | n => n, fun | n => n⟩
theorem YtineecopmifepaaGreatDoor.sortedA : Go.Proofs.SlLaysZI.n6 Tryz.prog YtineecopmifepaaGreatDoor.sortedA_ren := {
  mixed := by kernel_rfl
  f6 := ⟨Tryz.f217.name, by decide, Tryz.func217.trans (congrArg some (by kernel_rfl))⟩
  f8 := ⟨Tryz.f273.name, by decide, Tryz.func273.trans (congrArg some (by kernel_rfl))⟩
  f11 := ⟨Tryz.f306.name, by decide, Tryz.func306.trans (congrArg some (by kernel_rfl))⟩
  t0 := Tryz.underlying0
  a0 := Tryz.isAgg0
  z0 := Tryz.sizeOf0
  v0 := Tryz.zeroValue0
  t24 := Tryz.underlying44
  a24 := Tryz.isAgg44
  z24 := Tryz.sizeOf44
  v24 := Tryz.zeroValue44
  t26 := Tryz.underlying3
  a26 := Tryz.isAgg3
  z26 := Tryz.sizeOf3
  v26 := Tryz.zeroValue3
  t28 := Tryz.underlying285
  a28 := Tryz.isAgg285
  z28 := Tryz.sizeOf285
  v28 := Tryz.zeroValue285
  i26 := by kernel_rfl }
end Go.Proofs
set_option linter.unusedSimpArgs false
set_option linter.unusedVariables false
namespace Go.Proofs.YtineecopmifepaaGreatDoor
open Go.ChangeShapes Go.WideShapes Go.ChangeAt Go.RowKit Go.Sort
set_option linter.unusedVariables false
set_option linter.unusedSimpArgs false
theorem Rw1.holds {w : World} {g cap : Nat} {l : List Int} {cur : Array Value} (h : Rw1 w g cap l cur) : Holds (Value.int .i64) w g 0 l.toArray := holds_of_blockI h.at' h.take
theorem putRow_heap {w : World} {g q : Nat} {cur : Array Value} {e : TypeId} {fr : Nat × Nat} (d : Array Int) (hb : w.heap[g]? = some (.cells cur e fr)) :
    (putRow (Value.int .i64) (Sort.ahead w q) g 0 d).heap[g]? = some (.cells (putCells (Value.int .i64) 0 d cur) e fr) := by
  have := heap_sortedI (n := q) (os := #[]) d hb
  rwa [grow_empty] at this
theorem putRow_stp (w : World) (g q : Nat) (d : Array Int) : Stp (fun x => x = g) w (putRow (Value.int .i64) (Sort.ahead w q) g 0 d) := by
  have := grownBy_sortedI (w := w) (g := g) (n := q) (os := #[]) d
  rw [grow_empty] at this
  exact Stp.of_grown this (by rintro x e; injection e with e; exact .inl e.symm)
theorem delete_own {w : World} {v : Value} {l : List Int} (h : OwV w v l) (k : Nat) (hk : k < l.length) :
    Calls Tryz.prog 190 #[v, .int .i64 (k : Int), .int .i64 ((k : Int) + 1)] w fun e w' => ∃ v', e = .returned v' ∧ OwV w' v' (l.take k ++ l.drop (k + 1)) ∧ v'.ownBlock = v.ownBlock ∧ Stp (fun x => v.ownBlock = some x) w w' := by
  rcases h.row with ⟨rfl, rfl⟩ | ⟨g, cap, cur, rfl, hw⟩
  · cases hk
  · have := Any.slices_Delete_int lays23 g 0 cap k (k + 1) l w hw.holds hw.le hw.cm (by omega) (by omega)
    rw [show ((k + 1 : Nat) : Int) = (k : Int) + 1 by omega] at this
    refine Calls.mono this ?_
    rintro e w' ⟨rfl, q, rfl⟩
    have hl : (l.take k ++ l.drop (k + 1)).length = l.length - (k + 1 - k) := by simp; omega
    have hd : (l.take k ++ l.drop (k + 1) ++ List.replicate (k + 1 - k) 0).length = l.length := by rw [List.length_append, hl]; simp; omega
    refine ⟨_, rfl, ?_, rfl, (putRow_stp w g q _).mono (fun x e => .inl (by subst e; rfl))⟩
    rw [← hl]
    refine Rw1.own (cur := putCells (Value.int .i64) 0 (l.take k ++ l.drop (k + 1) ++ List.replicate (k + 1 - k) 0).toArray cur) ⟨putRow_heap _ hw.at', by rw [hl]; have := hw.le; omega, hw.cm, by simp [putCells, hw.size], ?_⟩
    have h1 := take_putCellsI cur (l.take k ++ l.drop (k + 1) ++ List.replicate (k + 1 - k) 0) (by rw [hd, hw.size]; exact hw.le)
    have h2 := congrArg (List.take (l.take k ++ l.drop (k + 1)).length) h1
    rw [List.take_take, hd, Nat.min_eq_left (by rw [hl]; omega), List.map_append, List.take_append_of_le_length (by simp), ← List.length_map (f := Value.int .i64), List.take_length] at h2
    rw [List.length_map] at h2
    exact h2
/-- The list, rising. -/
def srt (l : List Int) : List Int := l.mergeSort fun x y => decide (x ≤ y)
theorem sort_own {w : World} {v : Value} {l : List Int} (h : OwV w v l) (hl : l.length ≤ 1000000) :
    Calls Tryz.prog 179 #[v] w fun e w' => e = .returned (.tuple #[]) ∧ OwV w' v (srt l) ∧ Stp (fun x => v.ownBlock = some x) w w' := by
  rcases h.row with ⟨rfl, rfl⟩ | ⟨g, cap, cur, rfl, hw⟩
  · refine Calls.mono (Any.slices_Sort_int_none lays189 none 0 w) ?_
    rintro e w' ⟨rfl, rfl⟩
    exact ⟨rfl, by unfold srt; simp; exact OwV.nil _, Stp.refl _ _⟩
  · refine Calls.mono (Any.slices_Sort_int lays189 g 0 cap l w hw.holds hw.lt (by omega)) ?_
    rintro e w' ⟨rfl, n, os, rfl⟩
    have hlen : (srt l).length = l.length := by unfold srt; simp
    refine ⟨rfl, ?_, Stp.of_grown (grownBy_sortedI _) (by rintro x e; exact .inl (by rw [← e]; rfl))⟩
    have := ownsRow_sortedI (n := n) (os := os) (base := 0) (ts := srt l) hlen (Nat.zero_le g) hw.at' hw.le hw.cm (by rw [Nat.mul_one]; exact hw.size)
    unfold OwV
    rw [hlen]
    exact this
theorem srt_mem (l : List Int) (x : Int) : x ∈ srt l ↔ x ∈ l := by unfold srt; exact List.mem_mergeSort
theorem srt_rising (l : List Int) (h : l.Nodup) : (srt l).Pairwise (· < ·) := by
  have h1 : (srt l).Pairwise (fun a b => decide (a ≤ b) = true) := List.pairwise_mergeSort (fun a b c h1 h2 => by simp at *; omega) (fun a b => by simp; omega) l
  have h2 : (srt l).Nodup := (List.mergeSort_perm l _).nodup_iff.2 h
  have h3 := h1.and h2
  exact h3.imp (fun ⟨a, b⟩ => by simp at a; omega)
end Go.Proofs.YtineecopmifepaaGreatDoor
namespace Go.Proofs.YtineecopmifepaaGreatDoor
open Go.ChangeShapes Go.WideShapes Go.ChangeAt Go.RowKit Go.Sort
set_option linter.unusedVariables false
set_option linter.unusedSimpArgs false
/-- Where a number stands. -/
theorem idx_erase : ∀ (l : List Int) (x : Int), x ∈ l → ∃ k : Nat, k < l.length ∧ Lib.idxOf l x = (k : Int) ∧ l.take k ++ l.drop (k + 1) = l.erase x := by
  intro l x hx
  have key : ∀ (l : List Int), x ∈ l → ∃ k : Nat, k < l.length ∧ l.getD k 0 = x ∧ (∀ j, j < k → l.getD j 0 ≠ x) ∧ l.take k ++ l.drop (k + 1) = l.erase x := by
    intro l
    induction l with
    | nil => intro h; cases h
    | cons a t ih =>
      intro h
      by_cases e : a = x
      · exact ⟨0, by simp, by simp [e], fun j hj => absurd hj (by omega), by simp [List.erase_cons, e]⟩
      · obtain ⟨k, h1, h2, h3, h4⟩ := ih (by rcases List.mem_cons.1 h with h | h; exact absurd h.symm e; exact h)
        refine ⟨k + 1, by simpa using h1, by simpa using h2, fun j hj => ?_, ?_⟩
        · cases j with
          | zero => simpa using e
          | succ j => have := h3 j (by omega); simpa using this
        · rw [List.erase_cons, if_neg (by simpa using e), ← h4]; simp
  obtain ⟨k, h1, h2, h3, h4⟩ := key l hx
  refine ⟨k, h1, ?_, h4⟩
  have := Lib.idxOf_hit l l.length k x h1 (Nat.le_refl _) h2 h3
  rwa [List.take_length] at this
theorem index_own {w : World} {v : Value} {l : List Int} (h : OwV w v l) (x : Int) (hl : l.length ≤ 1000000) (hx : x ∈ l) :
    Calls Tryz.prog 188 #[v, .int .i64 x] w fun e w' => (∃ k : Nat, k < l.length ∧ e = .returned (.int .i64 (k : Int)) ∧ l.take k ++ l.drop (k + 1) = l.erase x) ∧ w = w' := by
  rcases h.row with ⟨rfl, rfl⟩ | ⟨g, cap, cur, rfl, hw⟩
  · cases hx
  · obtain ⟨k, h1, h2, h3⟩ := idx_erase l x hx
    have := Any.slices_Index_int lays108 g 0 l.length cap l x w (Nat.le_refl _) (by omega) (fun j hj => by rw [Nat.zero_add]; exact hw.cell j hj)
    refine Calls.mono this ?_
    rintro e w' ⟨rfl, rfl⟩
    refine ⟨⟨k, h1, ?_, h3⟩, rfl⟩
    rw [List.take_length, h2]
theorem ints_one (l : List Int) : ∀ v ∈ l.map (Value.int .i64), v.oneCell' = true := by
  intro v hv; obtain ⟨x, _, rfl⟩ := List.mem_map.1 hv; rfl
theorem insert_own {w : World} {v : Value} {l : List Int} (h : OwV w v l) (x : Int) (vb : Nat) (hb : w.heap[vb]? = some (.cells #[.int .i64 x] 3 (0, 0))) (hv : v.ownBlock ≠ some vb) (hlen : l.length ≤ 1000000) :
    Calls Tryz.prog 189 #[v, .int .i64 0, .slice (some ⟨vb, 0, none⟩) 1 1] w fun e w' => ∃ v', e = .returned v' ∧ OwV w' v' (x :: l) ∧ (∀ r, v'.ownBlock = some r → v.ownBlock = some r ∨ (w.heap.size ≤ r ∧ r < w'.heap.size)) ∧ Stp (fun x => v.ownBlock = some x) w w' := by
  have hvs : ∀ j u, ([Value.int .i64 x])[j]? = some u → w.cell? ⟨vb, 0 + j, none⟩ = some u := fun j u hu => by
    rw [Nat.zero_add, cell_of_row w vb j _ _ (0, 0) hb]; simpa using hu
  have h1v : ∀ u ∈ [Value.int .i64 x], u.oneCell' = true := ints_one [x]
  have grown : ∀ (c : Nat) (cs : List Value), cs = (l.map (Value.int .i64)) → ∀ (W : World), W.heap[w.heap.size]? = some (.cells ((Value.int .i64 x :: l.map (Value.int .i64)).toArray ++ Builtin.zeroCells (Value.int .i64 0).cells (grownCap w (l.length + 1) c 3 - (l.length + 1))) 3 (0, 0)) → OwV W (.slice (some ⟨w.heap.size, 0, none⟩) (x :: l).length (grownCap w (l.length + 1) c 3)) (x :: l) := fun c cs _ W hW => by
    have hge := grownCap_ge w (l.length + 1) c 3
    refine Rw1.own ⟨hW, by simpa using hge, grownCap_le_maxLen w _ _ _ (by unfold maxLen; omega), ?_, ?_⟩
    · have hz : (Builtin.zeroCells (Value.int .i64 0).cells (grownCap w (l.length + 1) c 3 - (l.length + 1))).size = grownCap w (l.length + 1) c 3 - (l.length + 1) := by simp [Builtin.zeroCells, Value.cells]
      rw [Array.size_append, hz]; simp; omega
    · simp
  rcases h.row with ⟨rfl, rfl⟩ | ⟨g, cap, cur, rfl, hw⟩
  · have := Any2.slices_Insert_int_end_grow lays21 none 0 0 vb 0 1 1 [] [.int .i64 x] w (by omega) (by omega) (by omega) (by omega) rfl rfl (fun _ => rfl) (fun a e => by cases e) hvs h1v
    refine Calls.mono this ?_
    rintro e w' ⟨rfl, rfl⟩
    refine ⟨_, rfl, ?_, fun r hr => .inr ?_, Stp.of_below ((Below.refl _ w).drew.alloc (Nat.le_refl _) _) _⟩
    · have := grown 0 [] rfl (w.drew.alloc (.cells ((Value.int .i64 x :: ([] : List Int).map (Value.int .i64)).toArray ++ Builtin.zeroCells (Value.int .i64 0).cells (grownCap w (0 + 1) 0 3 - (0 + 1))) 3)) (heap_alloc_new w.drew _)
      exact this
    · have : w.heap.size = r := by simpa [Value.ownBlock] using hr
      subst this
      exact ⟨Nat.le_refl _, by show _ < (w.heap.push _).size; simp⟩
  · have hvb : vb ≠ g := fun e => hv (by rw [e]; rfl)
    by_cases hroom : l.length + 1 ≤ cap
    · by_cases h0 : 0 < l.length
      · have := Any2.slices_Insert_int_shift lays21 g 0 l.length cap 0 vb 0 1 1 (l.map (Value.int .i64)) [.int .i64 x] w h0 (by omega) hroom (by have := hw.cm; unfold maxLen at this; omega) hvb (by simp) rfl hw.cells
          (fun j hj => by rw [Nat.zero_add]; exact hw.has j (by omega)) (fun j _ => by rw [Nat.zero_add]; exact hw.frozen j) hvs (ints_one l) h1v 3 3 1 cap (by simp [World.shape?, hb]) (by simp [World.shape?, hw.at', hw.size]) (by omega) (by simp [World.frozen?, hb]) (by simp [World.frozen?, hb])
        refine Calls.mono this ?_
        rintro e w' ⟨rfl, rfl⟩
        have hcl : cur.toList.length = cap := by simp [hw.size]
        have s1 : (w.drew.setCells g (0 + (0 + 1)) ((l.map (Value.int .i64)).drop 0)).heap[g]? = _ := setCells_heap _ (show w.drew.heap[g]? = _ from hw.at') (by simp [hw.size]; omega) (fun u hu => ints_one l u (List.mem_of_mem_drop hu))
        have s2 := setCells_heap (o := 0 + 0) [Value.int .i64 x] s1 (by simp [hw.size]; omega) h1v
        refine ⟨_, rfl, ?_, fun r hr => .inl hr, ?_⟩
        · refine Rw1.own (l := x :: l) ⟨s2, by simpa using hroom, hw.cm, ?_, ?_⟩
          · simp [hw.size]; omega
          · obtain ⟨a, rest, hc⟩ : ∃ a rest, cur.toList = a :: rest := by
              cases hcc : cur.toList with
              | nil => rw [hcc] at hcl; simp at hcl; omega
              | cons a rest => exact ⟨a, rest, rfl⟩
            simp [hc]
        · exact (((Stp.refl _ w).drew.next (Stp.of_setCells w.drew g _ _ (.inl rfl)) (F' := fun x => x = g) (fun x e => .inl (by subst e; rfl))).next (Stp.of_setCells _ g _ _ (.inl rfl)) (F' := fun x => x = g) (fun x e => .inl (by subst e; rfl)))
      · have hl0 : l = [] := List.eq_nil_of_length_eq_zero (by omega)
        subst hl0
        have hc1 : 1 ≤ cap := by simpa using hroom
        have hsp : ∀ j, j < 1 → (w.cell? ⟨g, 0 + 0 + j, none⟩).isSome = true := fun j hj => by
          rw [show 0 + 0 + j = j by omega]; exact hw.has j (by omega)
        have := Any2.slices_Insert_int_end_room lays21 g 0 0 cap vb 0 1 1 [.int .i64 x] w (by omega) hroom (by have := hw.cm; unfold maxLen at this; omega) rfl hsp (fun j _ => hw.frozen _) hvs h1v
        refine Calls.mono this ?_
        rintro e w' ⟨rfl, rfl⟩
        have s1 := setCells_heap (o := 0 + 0) [Value.int .i64 x] hw.at' (by simp [hw.size]; simpa using hroom) h1v
        refine ⟨_, rfl, ?_, fun r hr => .inl hr, Stp.of_setCells w g _ _ (.inl rfl)⟩
        refine Rw1.own (l := [x]) ⟨s1, by simpa using hroom, hw.cm, ?_, ?_⟩
        · simp [hw.size]; omega
        · simp
    · by_cases h0 : 0 < l.length
      · have := Any2.slices_Insert_int_grow lays21 g 0 l.length cap 0 vb 0 1 1 (l.map (Value.int .i64)) [.int .i64 x] w h0 (by omega) hw.le (by omega) (by omega) (by simp) rfl hw.cells hvs (ints_one l) h1v
        refine Calls.mono this ?_
        rintro e w' ⟨rfl, rfl⟩
        have s0 := heap_alloc_new w (.cells ((((l.map (Value.int .i64)).take 0).toArray ++ Builtin.zeroCells (Value.int .i64 0).cells (l.length + 1 - 0) ++ Builtin.zeroCells (Value.int .i64 0).cells (grownCap w (l.length + 1) cap 3 - (l.length + 1)))) 3)
        have hz : ∀ n, (Builtin.zeroCells (Value.int .i64 0).cells n).size = n := fun n => by simp [Builtin.zeroCells, Value.cells]
        have s1 := setCells_heap (o := 0) [Value.int .i64 x] (show (w.alloc (.cells ((((l.map (Value.int .i64)).take 0).toArray ++ Builtin.zeroCells (Value.int .i64 0).cells (l.length + 1 - 0) ++ Builtin.zeroCells (Value.int .i64 0).cells (grownCap w (l.length + 1) cap 3 - (l.length + 1)))) 3)).drew.heap[w.heap.size]? = _ from s0) (by simp [hz]; omega) h1v
        have s2 := setCells_heap (o := 0 + 1) ((l.map (Value.int .i64)).drop 0) (w := (((w.alloc (.cells ((((l.map (Value.int .i64)).take 0).toArray ++ Builtin.zeroCells (Value.int .i64 0).cells (l.length + 1 - 0) ++ Builtin.zeroCells (Value.int .i64 0).cells (grownCap w (l.length + 1) cap 3 - (l.length + 1)))) 3)).drew.setCells w.heap.size 0 [Value.int .i64 x]).drew)) s1 (by simp [hz]; omega) (fun u hu => ints_one l u (List.mem_of_mem_drop hu))
        refine ⟨.slice (some ⟨w.heap.size, 0, none⟩) (l.length + 1) (grownCap w (l.length + 1) cap 3), rfl, ?_, fun r hr => .inr ?_, ?_⟩
        · have hge := grownCap_ge w (l.length + 1) cap 3
          refine Rw1.own (l := x :: l) ⟨s2, by simpa using hge, grownCap_le_maxLen w _ _ _ (by unfold maxLen; omega), ?_, ?_⟩
          · simp [hz]; omega
          · simp
        · have : w.heap.size = r := by simpa [Value.ownBlock] using hr
          subst this
          exact ⟨Nat.le_refl _, by rw [size_setCells]; show _ < (World.setCells _ _ _ _).heap.size; rw [size_setCells]; show _ < (w.heap.push _).size; simp⟩
        · have k0 : Stp (fun x => x = w.heap.size) w (w.alloc (.cells ((((l.map (Value.int .i64)).take 0).toArray ++ Builtin.zeroCells (Value.int .i64 0).cells (l.length + 1 - 0) ++ Builtin.zeroCells (Value.int .i64 0).cells (grownCap w (l.length + 1) cap 3 - (l.length + 1)))) 3)).drew := (Stp.of_alloc w _ _).drew
          have k1 := (k0.next (Stp.of_setCells _ w.heap.size 0 [Value.int .i64 x] (.inl rfl)) (F' := fun x => x = w.heap.size) (fun x e => .inl e)).drew
          have k2 := k1.next (Stp.of_setCells _ w.heap.size (0 + 1) ((l.map (Value.int .i64)).drop 0) (.inl rfl)) (F' := fun x => x = w.heap.size) (fun x e => .inl e)
          exact k2.mono (fun x e => .inr (by omega))
      · have hl0 : l = [] := List.eq_nil_of_length_eq_zero (by omega)
        subst hl0
        have hcap : cap = 0 := by simp at hroom; omega
        subst hcap
        have := Any2.slices_Insert_int_end_grow lays21 (some ⟨g, 0, none⟩) 0 0 vb 0 1 1 [] [.int .i64 x] w (by omega) (by omega) (by omega) (by omega) rfl rfl (fun e => by cases e) (fun a _ j u hu => by simp at hu) hvs h1v
        refine Calls.mono this ?_
        rintro e w' ⟨rfl, rfl⟩
        refine ⟨_, rfl, ?_, fun r hr => .inr ?_, Stp.of_below ((Below.refl _ w).drew.alloc (Nat.le_refl _) _) _⟩
        · have := grown 0 [] rfl (w.drew.alloc (.cells ((Value.int .i64 x :: ([] : List Int).map (Value.int .i64)).toArray ++ Builtin.zeroCells (Value.int .i64 0).cells (grownCap w (0 + 1) 0 3 - (0 + 1))) 3)) (heap_alloc_new w.drew _)
          exact this
        · have : w.heap.size = r := by simpa [Value.ownBlock] using hr
          subst this
          exact ⟨Nat.le_refl _, by show _ < (w.heap.push _).size; simp⟩
end Go.Proofs.YtineecopmifepaaGreatDoor
