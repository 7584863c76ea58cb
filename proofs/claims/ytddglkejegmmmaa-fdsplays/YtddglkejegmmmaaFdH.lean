/-
  What Open of the document's table of layer 24 returns: no statement is proved here.
-/
import Derived.Test.YtddglkejegmmmaaFdG
namespace Go.Proofs.Ytddglkejegmmmaa
open Go.ChangeShapes Go.WideShapes Go.ChangeAt Go.RowKit
set_option linter.unusedVariables false
set_option linter.unusedSimpArgs false

theorem store_bool {w : World} {y k : Nat} {b : Bool} {c : Value} (h : w.cell? ⟨y, k, none⟩ = some c) (hf : w.frozen? ⟨y, k, none⟩ = false) : (storeVar 4 ⟨y, k, none⟩ (.bool b)).run Try.prog w = .ok () (w.setCell ⟨y, k, none⟩ (.bool b)) := by
  go_simp
theorem store_fl {w : World} {y o : Nat} {F : Nat → Value} (h : Rfn w y 32 F) (ho : o + 3 ≤ 32) (f : Fl) : (storeVar 37 ⟨y, o, none⟩ (.agg f.cs.toArray)).run Try.prog w = .ok () (w.setCells y o f.cs) :=
  run_storeVar_mid w y o _ f.cs.toArray (fun j hj => by
    have hj3 : j < 3 := hj
    exact ⟨by rw [h.cell (by omega)]; rfl, h.fz _⟩) (by rw [srtRl.size]; rfl) (all_oneCell_toArray f.cs_one)
set_option maxHeartbeats 1000000 in
theorem rfopen_any {w : World} {y : Nat} {t : FT} (h : Rd w y t) (x m : Int) :
    Calls Try.prog 10 #[.pointer (some ⟨y, 0, none⟩), .int .i64 x, .int .i64 m] w fun e w' => e = .returned (.tuple #[.int .i64 (fdOpenN t), .int .i64 (fdOpenE t)]) ∧ Rd w' y (fdOpen t x m) ∧ Stp (fun z => z = y) w w' := by
  go_enter Try.func10, Try.ntmps10
  go_wp2
  go_loopw [8] (fun i wr => ∃ k : Nat, k ≤ 8 ∧ i = .int .i64 (k : Int) ∧ w = wr ∧ ∀ i, i < k → (t i).isSome = true) (fun i _ => 8 - (intOf i).toNat)
  case atStart => exact ⟨0, Nat.zero_le _, rfl, rfl, fun i hi => by omega⟩
  case round =>
    obtain ⟨k, hk, rfl, rfl, hs⟩ := hrel
    by_cases hlt : (k : Int) < 8
    · have hk8 : k < 8 := by omega
      have a0 : (0 : Int) ≤ (k : Int) := by omega
      have c0 := h.in hk8
      cases ht : t k with
      | none =>
        have hfr : fdFr t = k := fdFr_eq (by omega) hs (.inr ht)
        have e1 : fdOpenN t = (k : Int) := by unfold fdOpenN; rw [if_neg (by omega), hfr]
        have e2 : fdOpenE t = 0 := by unfold fdOpenE; rw [if_neg (by omega)]
        have e3 : fdOpen t x m = fdUp t k (some ⟨x, 0, m⟩) := by unfold fdOpen; rw [if_neg (by omega), hfr]
        have E : Hid (fdOpenN t = (k : Int) ∧ fdOpenE t = 0 ∧ fdOpen t x m = fdUp t k (some ⟨x, 0, m⟩)) := ⟨e1, e2, e3⟩
        rw [ht] at c0
        simp only [Option.isSome_none] at c0
        have f0 := h.fz k
        clear hfr e1 e2 e3 hs
        have Hd : Rd w.drew y t := h.later ((Below.refl _ w).drew)
        have hp := Hd.put hk8 ⟨x, 0, m⟩
        obtain ⟨F, hF, -⟩ := id Hd
        have g1 := Hd.in hk8
        have g2 := Hd.fz k
        have R1 := hF.set k (.bool true) rfl
        have R2 := hF.three (8 + k * 3) ⟨x, 0, m⟩ (by omega)
        have g3 := R2.cell (i := k) (by omega)
        have g4 := R2.fz k
        go_wp2_with fail
        refine wp_region_held_drew (S := fun _ => True) (by kernel_rfl) trivial (fun hHeld => ?_)
        refine wpAnyH_take (i := 0) (oi := { dst := some 20, op := Op.move (Operand.tmp 0), type := 25, pos := _, after := #[], guard := none }) (v := .pointer (some ⟨y, 0, none⟩)) rfl (by kernel_rfl) (by kernel_rfl) (by kernel_rfl) (fun _ _ _ h => h) (Or.inl ⟨by rfl, ?_⟩) hHeld ?_
        · intro u hu
          go_simp
        try simp only [Act.put, List.setIfInBounds_toArray, List.set_cons_zero, List.set_cons_succ]
        refine wpAnyH_take (i := 1) (oi := { dst := some 21, op := Op.move (Operand.tmp 8), type := 3, pos := _, after := #[], guard := none }) (v := .int .i64 (k : Int)) rfl (by kernel_rfl) (by kernel_rfl) (by kernel_rfl) (fun _ _ _ h => h) (Or.inl ⟨by rfl, ?_⟩) hHeld ?_
        · intro u hu
          go_simp
        try simp only [Act.put, List.setIfInBounds_toArray, List.set_cons_zero, List.set_cons_succ]
        refine wpAnyH_take (i := 2) (oi := { dst := some 22, op := Op.move (Operand.tmp 0), type := 25, pos := _, after := #[{ on := 10, ground := Ground.gcOnly Departure.lateStores }], guard := none }) (v := .pointer (some ⟨y, 0, none⟩)) rfl (by kernel_rfl) (by kernel_rfl) (by kernel_rfl) (fun _ _ _ h => h) (Or.inl ⟨by rfl, ?_⟩) hHeld ?_
        · intro u hu
          go_simp
        try simp only [Act.put, List.setIfInBounds_toArray, List.set_cons_zero, List.set_cons_succ]
        refine wpAnyH_take (i := 3) (oi := { dst := some 23, op := Op.move (Operand.tmp 8), type := 3, pos := _, after := #[{ on := 10, ground := Ground.gcOnly Departure.lateStores }], guard := none }) (v := .int .i64 (k : Int)) rfl (by kernel_rfl) (by kernel_rfl) (by kernel_rfl) (fun _ _ _ h => h) (Or.inl ⟨by rfl, ?_⟩) hHeld ?_
        · intro u hu
          go_simp
        try simp only [Act.put, List.setIfInBounds_toArray, List.set_cons_zero, List.set_cons_succ]
        refine wpAnyH_take (i := 4) (oi := { dst := some 24, op := Op.move (Operand.tmp 1), type := 3, pos := _, after := #[], guard := none }) (v := .int .i64 x) rfl (by kernel_rfl) (by kernel_rfl) (by kernel_rfl) (fun _ _ _ h => h) (Or.inl ⟨by rfl, ?_⟩) hHeld ?_
        · intro u hu
          go_simp
        try simp only [Act.put, List.setIfInBounds_toArray, List.set_cons_zero, List.set_cons_succ]
        refine wpAnyH_take (i := 5) (oi := { dst := some 25, op := Op.move (Operand.tmp 2), type := 3, pos := _, after := #[], guard := none }) (v := .int .i64 m) rfl (by kernel_rfl) (by kernel_rfl) (by kernel_rfl) (fun _ _ _ h => h) (Or.inl ⟨by rfl, ?_⟩) hHeld ?_
        · intro u hu
          go_simp
        try simp only [Act.put, List.setIfInBounds_toArray, List.set_cons_zero, List.set_cons_succ]
        refine wpAnyH_take (i := 6) (oi := { dst := some 26, op := Op.build 37 #[(0, Operand.tmp 24), (1, Operand.const (Value.int IntKind.i64 0)), (2, Operand.tmp 25)], type := 37, pos := _, after := #[{ on := 4, ground := Ground.data }, { on := 5, ground := Ground.data }], guard := none }) (v := .agg #[.int .i64 x, .int .i64 0, .int .i64 m]) rfl (by kernel_rfl) (by kernel_rfl) (by kernel_rfl) (fun _ _ _ h => h) (Or.inl ⟨by rfl, ?_⟩) hHeld ?_
        · intro u hu
          go_simp
        try simp only [Act.put, List.setIfInBounds_toArray, List.set_cons_zero, List.set_cons_succ]
        refine wpAnyH_take (i := 7) (oi := { dst := some 27, op := Op.nilCheck (Operand.tmp 20), type := 0, pos := _, after := #[{ on := 0, ground := Ground.data }], guard := none }) (v := .pointer (some ⟨y, 0, none⟩)) rfl (by kernel_rfl) (by kernel_rfl) (by kernel_rfl) (fun _ _ _ h => h) (Or.inl ⟨by rfl, ?_⟩) hHeld ?_
        · intro u hu
          go_simp
        try simp only [Act.put, List.setIfInBounds_toArray, List.set_cons_zero, List.set_cons_succ]
        refine wpAnyH_take (i := 8) (oi := { dst := some 28, op := Op.fieldAddr 56 (Operand.tmp 27) 0, type := 0, pos := _, after := #[{ on := 7, ground := Ground.data }], guard := none }) (v := .pointer (some ⟨y, 0, none⟩)) rfl (by kernel_rfl) (by kernel_rfl) (by kernel_rfl) (fun _ _ _ h => h) (Or.inl ⟨by rfl, ?_⟩) hHeld ?_
        · intro u hu
          go_simp
        try simp only [Act.put, List.setIfInBounds_toArray, List.set_cons_zero, List.set_cons_succ]
        refine wpAnyH_take (i := 9) (oi := { dst := some 29, op := Op.indexAddr 53 (Operand.tmp 28) (Operand.tmp 21), type := 0, pos := _, after := #[{ on := 8, ground := Ground.data }, { on := 1, ground := Ground.data }, { on := 0, ground := Ground.phase }, { on := 1, ground := Ground.phase }, { on := 2, ground := Ground.textOnly Departure.lateStores }, { on := 3, ground := Ground.textOnly Departure.lateStores }, { on := 4, ground := Ground.textOnly Departure.lateStores }, { on := 5, ground := Ground.textOnly Departure.lateStores }, { on := 6, ground := Ground.textOnly Departure.lateStoresUnsure }], guard := none }) (v := .pointer (some ⟨y, k, none⟩)) rfl (by kernel_rfl) (by kernel_rfl) (by kernel_rfl) (fun _ _ _ h => h) (Or.inl ⟨by rfl, ?_⟩) hHeld ?_
        · intro u hu
          go_simp
        try simp only [Act.put, List.setIfInBounds_toArray, List.set_cons_zero, List.set_cons_succ]
        refine wpAnyH_take (i := 11) (oi := { dst := some 30, op := Op.nilCheck (Operand.tmp 22), type := 0, pos := _, after := #[{ on := 2, ground := Ground.data }], guard := none }) (v := .pointer (some ⟨y, 0, none⟩)) rfl (by kernel_rfl) (by kernel_rfl) (by kernel_rfl) (fun _ _ _ h => h) (Or.inl ⟨by rfl, ?_⟩) hHeld ?_
        · intro u hu
          go_simp
        try simp only [Act.put, List.setIfInBounds_toArray, List.set_cons_zero, List.set_cons_succ]
        refine wpAnyH_take (i := 12) (oi := { dst := some 31, op := Op.fieldAddr 56 (Operand.tmp 30) 1, type := 0, pos := _, after := #[{ on := 11, ground := Ground.data }], guard := none }) (v := .pointer (some ⟨y, 8, none⟩)) rfl (by kernel_rfl) (by kernel_rfl) (by kernel_rfl) (fun _ _ _ h => h) (Or.inl ⟨by rfl, ?_⟩) hHeld ?_
        · intro u hu
          go_simp
        try simp only [Act.put, List.setIfInBounds_toArray, List.set_cons_zero, List.set_cons_succ]
        refine wpAnyH_ready (rs := [10]) (by kernel_rfl) (by simp) ?_
        refine (AllReadyH.cons (o := { dst := none, op := Op.store 4 (Operand.tmp 29) (Operand.const (Value.bool true)), type := 0, pos := _, after := #[{ on := 9, ground := Ground.data }, { on := 0, ground := Ground.phase }, { on := 1, ground := Ground.phase }, { on := 2, ground := Ground.textOnly Departure.lateStores }, { on := 3, ground := Ground.textOnly Departure.lateStores }, { on := 4, ground := Ground.textOnly Departure.lateStores }, { on := 5, ground := Ground.textOnly Departure.lateStores }, { on := 6, ground := Ground.textOnly Departure.lateStoresUnsure }], guard := none }) rfl (fun K hK => ?_) AllReadyH.nil)
        first
        | refine step_st 4 ⟨y, k, none⟩ (.bool true) _ rfl _ _ rfl (by rfl) (by rfl) (store_bool g1 g2) ?_
        | refine step_st 4 ⟨y, k, none⟩ (.bool true) _ rfl _ _ rfl (by rfl) (by rfl) (store_bool g3 g4) ?_
        refine hK.out _ _ (trivial) (fun hHeld => ?_)
        clear hK K
        try simp only [Act.put]
        refine wpAnyH_take (i := 13) (oi := { dst := some 32, op := Op.indexAddr 54 (Operand.tmp 31) (Operand.tmp 23), type := 0, pos := _, after := #[{ on := 12, ground := Ground.data }, { on := 3, ground := Ground.data }, { on := 0, ground := Ground.phase }, { on := 1, ground := Ground.phase }, { on := 2, ground := Ground.phase }, { on := 3, ground := Ground.phase }, { on := 4, ground := Ground.phase }, { on := 5, ground := Ground.phase }, { on := 6, ground := Ground.phase }, { on := 7, ground := Ground.phase }, { on := 8, ground := Ground.phase }, { on := 9, ground := Ground.phase }, { on := 10, ground := Ground.phase }], guard := none }) (v := .pointer (some ⟨y, 8 + k * 3, none⟩)) rfl (by kernel_rfl) (by kernel_rfl) (by kernel_rfl) (fun _ _ _ h => h) (Or.inl ⟨by rfl, ?_⟩) hHeld ?_
        · intro u hu
          go_simp
        try simp only [Act.put, List.setIfInBounds_toArray, List.set_cons_zero, List.set_cons_succ]
        refine wpAnyH_ready (rs := [14]) (by kernel_rfl) (by simp) ?_
        refine (AllReadyH.cons (o := { dst := none, op := Op.store 37 (Operand.tmp 32) (Operand.tmp 26), type := 0, pos := _, after := #[{ on := 13, ground := Ground.data }, { on := 6, ground := Ground.data }, { on := 10, ground := Ground.chain }, { on := 0, ground := Ground.phase }, { on := 1, ground := Ground.phase }, { on := 2, ground := Ground.phase }, { on := 3, ground := Ground.phase }, { on := 4, ground := Ground.phase }, { on := 5, ground := Ground.phase }, { on := 6, ground := Ground.phase }, { on := 7, ground := Ground.phase }, { on := 8, ground := Ground.phase }, { on := 9, ground := Ground.phase }, { on := 10, ground := Ground.phase }], guard := none }) rfl (fun K hK => ?_) AllReadyH.nil)
        first
        | refine step_st 37 ⟨y, 8 + k * 3, none⟩ (.agg (Fl.mk x 0 m).cs.toArray) _ rfl _ _ rfl (by rfl) (by rfl) (store_fl R1 (by omega) _) ?_
        | refine step_st 37 ⟨y, 8 + k * 3, none⟩ (.agg (Fl.mk x 0 m).cs.toArray) _ rfl _ _ rfl (by rfl) (by rfl) (store_fl hF (by omega) _) ?_
        refine hK.out _ _ (trivial) (fun hHeld => ?_)
        clear hK K
        try simp only [Act.put]
        refine wpAnyH_done (by kernel_rfl) ?_ _
        all_goals
          go_wp2
          go_returns
          obtain ⟨e1, e2, e3⟩ := E.out
          rw [e1, e2, e3]
          refine ⟨by simp, ?_, ?_⟩
          · first | exact hp.1 | exact hp.2
          · first | exact ((Stp.refl (fun z => z = y) w).drew.setCell (p := ⟨y, k, none⟩) (.inl rfl) _).trans (stp_setCells _ _ _ _) | exact ((Stp.refl (fun z => z = y) w).drew.trans (stp_setCells _ _ _ _)).setCell (p := ⟨y, k, none⟩) (.inl rfl) _
      | some f =>
        rw [ht] at c0
        simp only [Option.isSome_some] at c0
        have hs' : ∀ i, i < k + 1 → (t i).isSome = true := fun i hi => by
          by_cases e : i = k
          · subst e; rw [ht]; rfl
          · exact hs i (by omega)
        clear hs
        go_wp2
        go_roundw
        case rel => exact ⟨k + 1, by omega, by go_num, by simp, hs'⟩
        case measure => simp [intOf]; omega
    · have hk8 : k = 8 := by omega
      subst hk8
      have hfr : fdFr t = 8 := fdFr_eq (Nat.le_refl _) hs (.inl rfl)
      have e1 : fdOpenN t = 0 := by unfold fdOpenN; rw [if_pos hfr]
      have e2 : fdOpenE t = 47 := by unfold fdOpenE; rw [if_pos hfr]
      have e3 : fdOpen t x m = t := by unfold fdOpen; rw [if_pos hfr]
      have E : Hid (fdOpenN t = 0 ∧ fdOpenE t = 47 ∧ fdOpen t x m = t) := ⟨e1, e2, e3⟩
      clear hfr e1 e2 e3 hs
      go_wp2
      go_returns
      obtain ⟨e1, e2, e3⟩ := E.out
      rw [e1, e2, e3]
      exact ⟨by simp, h, Stp.refl _ _⟩
end Go.Proofs.Ytddglkejegmmmaa
