/-
  What find and oldest of layer 13 return: no statement is proved here.
-/
import Derived.Test.YtecedklfdmbnpaaCacA
namespace Go.Proofs.Ytecedklfdmbnpaa
open Go.ChangeShapes Go.WideShapes Go.ChangeAt Go.RowKit
set_option linter.unusedVariables false
set_option linter.unusedSimpArgs false

theorem uPgs : Try.prog.underlying 77 = some (.map 3 83) := by kernel_rfl
theorem zeroPgp (w : World) : (zeroValue 83).run Try.prog w = .ok (.pointer none) w := (zero_of_info (v := .pointer none) (n := 1) (by kernel_rfl)).1 w
theorem yields_M {ops : Array Oper} {o : Oper} {a : Act} {S : World → Prop} (hw : Region.wanted o (yielded ops a.tmps) = true) (m x : Operand) (ho : o.op = .lookup 77 m x false) (b : Nat) (f : Int → Option Value) (hm : a.eval m = .map (some b)) (k : Int) (hx : a.eval x = .int .i64 k) (hk : (Lit.int .i64 k).wf = true) (v : Value) (hv : f k = some v) (hS : ∀ w, S w → MpI Try.prog 3 w b f) :
    YieldsIf Try.prog ops S o v a := by
  refine Or.inl ⟨hw, fun w hs => ?_⟩
  simp [execOp, ho, hm, hx, (hS w hs).look u3 uPgs (zeroPgp w) hk, hv]
def pgE (lp : Int → Option Pg) (i : Int) : Int := match lp i with
  | none => 5
  | some _ => 0
theorem find_any {w : World} {gc g mp n : Nat} {ov : Value} {h m : Int} {lp : Int → Option Pg} {lo : List Int} {f : Int → Option Value} {E : Nat → Prop} (H : Cm w gc g mp ov n h m lp lo f E) (i : Int) (hi : (Lit.int .i64 i).wf = true) :
    Calls Try.prog 51 #[.pointer (some ⟨gc, 0, none⟩), .int .i64 i] w fun e w' => e = .returned (.tuple #[(f i).getD (.pointer none), .int .i64 (pgE lp i)]) ∧ w = w' := by
  obtain ⟨y0, y1, y2, y3, y4, y5⟩ := H.cells
  have hm := H.mm
  cases hl : lp i with
  | none =>
    have hf : f i = none := H.no i hl
    have e1 : pgE lp i = 5 := by unfold pgE; rw [hl]
    rw [e1, hf]; clear e1
    go_enter Try.func51, Try.ntmps51
    go_wp2_with (refine at_look (by rfl) _ _ (by rfl) uPgs (.pointer none) (zeroPgp _) i (by rfl) (by rfl) hm hi ?_; rw [hf])
    go_returns
    exact ⟨rfl, rfl⟩
  | some q =>
    obtain ⟨r, hf, _⟩ := H.pg i q hl
    have e1 : pgE lp i = 0 := by unfold pgE; rw [hl]
    rw [e1, hf]; clear e1
    go_enter Try.func51, Try.ntmps51
    go_wp2_with (refine at_look (by rfl) _ _ (by rfl) uPgs (.pointer none) (zeroPgp _) i (by rfl) (by rfl) hm hi ?_; rw [hf])
    go_returns
    exact ⟨rfl, rfl⟩
theorem find_nil (i : Int) (w : World) : Calls Try.prog 51 #[.pointer none, .int .i64 i] w fun e w' => e = .returned (.tuple #[.pointer none, .int .i64 1]) ∧ w = w' := by
  go_enter Try.func51, Try.ntmps51
  go_wp2
  go_returns
  exact ⟨rfl, rfl⟩
/-- Where the last stands that is not pinned, of the first k; -1: all are. -/
def oldN (l : El) : Nat → Int
  | 0 => -1
  | k + 1 => match l[k]? with
    | some e => if e.2.pn = 0 then (k : Int) else oldN l k
    | none => oldN l k
theorem oldN_app (l : El) (e : Int × Pg) : ∀ k, k ≤ l.length → oldN (l ++ [e]) k = oldN l k
  | 0, _ => rfl
  | k + 1, h => by
    unfold oldN
    rw [List.getElem?_append_left (by omega), oldN_app l e k (by omega)]
theorem vic_app (l : El) (e : Int × Pg) : vic (l ++ [e]) = if e.2.pn = 0 then some e else vic l := by
  induction l with
  | nil => simp [vic]
  | cons a t ih =>
    rw [List.cons_append]
    unfold vic
    rw [ih]
    by_cases h : e.2.pn = 0
    · simp [h]
    · simp only [h, if_false]
theorem oldN_vic : ∀ (n : Nat) (l : El), l.length = n → (match vic l with
    | none => oldN l n = -1
    | some e => ∃ k : Nat, k < n ∧ oldN l n = (k : Int) ∧ l[k]? = some e)
  | 0, l, h => by
    have : l = [] := List.eq_nil_of_length_eq_zero h
    subst this; rfl
  | n + 1, l, h => by
    obtain ⟨t, e, rfl⟩ : ∃ t e, l = t ++ [e] := ⟨l.dropLast, l.getLast (by intro e; subst e; cases h), (List.dropLast_concat_getLast _).symm⟩
    have ht : t.length = n := by simpa using h
    rw [vic_app]
    have hg : (t ++ [e])[n]? = some e := by rw [List.getElem?_append_right (by omega), ht]; simp
    have ho : oldN (t ++ [e]) (n + 1) = if e.2.pn = 0 then (n : Int) else oldN t n := by
      conv => lhs; unfold oldN
      rw [hg]; simp only; rw [oldN_app t e n (by omega)]
    by_cases hp : e.2.pn = 0
    · rw [if_pos hp]
      rw [if_pos hp] at ho
      exact ⟨n, by omega, ho, hg⟩
    · rw [if_neg hp]
      rw [if_neg hp] at ho
      have ih := oldN_vic n t ht
      rw [ho]
      cases hv : vic t with
      | none => rw [hv] at ih; exact ih
      | some x =>
        rw [hv] at ih
        obtain ⟨k, h1, h2, h3⟩ := ih
        exact ⟨k, by omega, h2, by rw [List.getElem?_append_left (by omega)]; exact h3⟩
theorem erase_at : ∀ (l : List Int) (k : Nat), l.Nodup → k < l.length → l.take k ++ l.drop (k + 1) = l.erase (l.getD k 0)
  | [], k, _, h => by simp at h
  | a :: t, 0, _, _ => by simp
  | a :: t, k + 1, hn, h => by
    rw [List.nodup_cons] at hn
    have ih := erase_at t k hn.2 (by simpa using h)
    have hk : t.getD k 0 ∈ t := by rw [List.getD_eq_getElem?_getD, List.getElem?_eq_getElem (by simpa using h)]; exact List.getElem_mem _
    rw [List.getD_cons_succ, List.erase_cons, if_neg (by simp; intro e; exact hn.1 (e ▸ hk)), ← ih]; simp

set_option maxRecDepth 100000 in
set_option maxHeartbeats 2000000 in
theorem oldest_any {w : World} {gc g mp n : Nat} {ov : Value} {h m : Int} {l : El} {f : Int → Option Value} {E : Nat → Prop} (H : Cm w gc g mp ov n h m (fnd l) (keys l) f E) (hn : (keys l).Nodup) (hwf : ∀ e ∈ l, (Lit.int .i64 e.1).wf = true) (hlen : l.length ≤ 64) :
    Calls Try.prog 88 #[.pointer (some ⟨gc, 0, none⟩)] w fun e w' => e = .returned (.int .i64 (oldN l l.length)) ∧ Below w.heap.size w w' := by
  obtain ⟨y0, y1, y2, y3, y4, y5⟩ := H.cells
  have hov : ∃ a c, ov = .slice a l.length c := by
    rcases H.ow.row with ⟨e1, e2⟩ | ⟨r, cap, cur, e1, _⟩
    · have : l.length = 0 := by rw [← keys_len, e2]; rfl
      exact ⟨none, 0, by rw [this]; exact e1⟩
    · exact ⟨_, cap, by rw [e1, keys_len]⟩
  obtain ⟨a0, c0, rfl⟩ := hov
  go_enter Try.func88, Try.ntmps88
  go_wp2
  go_loopw [3] (fun v wr => ∃ k : Nat, k ≤ l.length ∧ v = .int .i64 ((k : Int) - 1) ∧ oldN l l.length = oldN l k ∧ Below w.heap.size w wr) (fun v _ => (intOf v + 1).toNat)
  case atStart => exact ⟨l.length, Nat.le_refl _, by go_num, rfl, Below.refl _ _⟩
  case round =>
    obtain ⟨k, hk, rfl, ho, hb⟩ := hrel
    have H2 := H.step (Stp.of_below hb (fun _ => False)) (fun _ _ => id)
    obtain ⟨z0, z1, z2, z3, z4, z5⟩ := H2.cells
    cases k with
    | zero =>
      go_wp2
      go_returns
      exact ⟨by rw [ho]; rfl, hb⟩
    | succ k =>
      have hkl : k < l.length := by omega
      obtain ⟨e, he⟩ : ∃ e, l[k]? = some e := ⟨_, List.getElem?_eq_getElem hkl⟩
      have hmem : e ∈ l := List.mem_of_getElem? he
      have hfe : fnd l e.1 = some e.2 := fnd_of_mem hn hmem
      obtain ⟨r, hf, _, hcs, _⟩ := H2.pg e.1 e.2 hfe
      have hke : (keys l).getD k 0 = e.1 := by unfold keys; rw [List.getD_eq_getElem?_getD, List.getElem?_map, he]; rfl
      have hrow : ∃ g0 cap cur, (Value.slice a0 l.length c0) = .slice (some ⟨g0, 0, none⟩) (keys l).length cap ∧ Rw1 wr g0 cap (keys l) cur := by
        rcases H2.ow.row with ⟨e1, e2⟩ | h
        · have : l.length = 0 := by rw [← keys_len, e2]; rfl
          omega
        · exact h
      obtain ⟨g0, cap, cur, e1, hw⟩ := hrow
      injection e1 with e1 e2 e3
      subst e1; subst e3; clear e2
      have ck := hw.cell k (by rw [keys_len]; exact hkl)
      rw [hke] at ck
      have cp := Pg.pn_cell hcs
      have hmm := H2.mm
      have hwe := hwf e hmem
      have a1 : (0 : Int) ≤ (k : Int) := by omega
      have a2 : (k : Int) < (l.length : Int) := by omega
      have a3 : IntKind.i64.wrap ((k : Int) - 1) = (k : Int) - 1 := by rw [IntKind.wrap_i64]; omega
      have a4 : ((k + 1 : Nat) : Int) - 1 = (k : Int) := by omega
      rw [a4]
      have hS : ∀ u, Below wr.heap.size wr u → (u.cell? ⟨gc, 2, none⟩ = some (.map (some mp)) ∧ u.cell? ⟨gc, 3, none⟩ = some (.slice (some ⟨g0, 0, none⟩) l.length c0) ∧ u.cell? ⟨g0, k, none⟩ = some (.int .i64 e.1) ∧ u.cell? ⟨r, 65, none⟩ = some (.int .i64 e.2.pn) ∧ MpI Try.prog 3 u mp f) := fun u hu =>
        ⟨(Stp.of_below hu (fun _ => False)).cell z2 id, (Stp.of_below hu (fun _ => False)).cell z3 id, (Stp.of_below hu (fun _ => False)).cell ck id, (Stp.of_below hu (fun _ => False)).cell cp id, hmm.step (Stp.of_below hu (fun _ => False)) id⟩
      have ho2 : oldN l (k + 1) = if e.2.pn = 0 then (k : Int) else oldN l k := by
        conv => lhs; unfold oldN
        rw [he]
      go_wp2
      by_cases hp : e.2.pn = 0
      · rw [if_pos hp] at ho2
        refine wp_region_held_drew (S := fun u => u.cell? ⟨gc, 2, none⟩ = some (.map (some mp)) ∧ u.cell? ⟨gc, 3, none⟩ = some (.slice (some ⟨g0, 0, none⟩) l.length c0) ∧ u.cell? ⟨g0, k, none⟩ = some (.int .i64 e.1) ∧ u.cell? ⟨r, 65, none⟩ = some (.int .i64 e.2.pn) ∧ MpI Try.prog 3 u mp f) (by kernel_rfl) (hS _ (Below.refl _ _).drew) (fun hHeld => ?_)
        refine wpAnyH_take (i := 0) (oi := { dst := some 14, op := Op.move (Operand.tmp 0), type := 34, pos := _, after := #[], guard := none }) (v := .pointer (some ⟨gc, 0, none⟩)) rfl (by kernel_rfl) (by kernel_rfl) (by kernel_rfl) (fun _ _ _ h => h) (Or.inl ⟨by rfl, ?_⟩) hHeld ?_
        · intro u hu
          go_simp
        try simp only [Act.put, List.setIfInBounds_toArray, List.set_cons_zero, List.set_cons_succ]
        refine wpAnyH_take (i := 1) (oi := { dst := some 15, op := Op.nilCheck (Operand.tmp 14), type := 0, pos := _, after := #[{ on := 0, ground := Ground.data }], guard := none }) (v := .pointer (some ⟨gc, 0, none⟩)) rfl (by kernel_rfl) (by kernel_rfl) (by kernel_rfl) (fun _ _ _ h => h) (Or.inl ⟨by rfl, ?_⟩) hHeld ?_
        · intro u hu
          go_simp
        try simp only [Act.put, List.setIfInBounds_toArray, List.set_cons_zero, List.set_cons_succ]
        refine wpAnyH_take (i := 2) (oi := { dst := some 16, op := Op.fieldAddr 79 (Operand.tmp 15) 2, type := 0, pos := _, after := #[{ on := 1, ground := Ground.data }], guard := none }) (v := .pointer (some ⟨gc, 2, none⟩)) rfl (by kernel_rfl) (by kernel_rfl) (by kernel_rfl) (fun _ _ _ h => h) (Or.inl ⟨by rfl, ?_⟩) hHeld ?_
        · intro u hu
          go_simp
        try simp only [Act.put, List.setIfInBounds_toArray, List.set_cons_zero, List.set_cons_succ]
        refine wpAnyH_take (i := 3) (oi := { dst := some 17, op := Op.load 77 (Operand.tmp 16), type := 77, pos := _, after := #[{ on := 2, ground := Ground.data }], guard := none }) (v := .map (some mp)) rfl (by kernel_rfl) (by kernel_rfl) (by kernel_rfl) (fun _ _ _ h => h) (Or.inl ⟨by rfl, ?_⟩) hHeld ?_
        · intro u hu
          obtain ⟨x1, x2, x3, x4, x5⟩ := hu; go_simp
        try simp only [Act.put, List.setIfInBounds_toArray, List.set_cons_zero, List.set_cons_succ]
        refine wpAnyH_take (i := 4) (oi := { dst := some 18, op := Op.move (Operand.tmp 0), type := 34, pos := _, after := #[], guard := none }) (v := .pointer (some ⟨gc, 0, none⟩)) rfl (by kernel_rfl) (by kernel_rfl) (by kernel_rfl) (fun _ _ _ h => h) (Or.inl ⟨by rfl, ?_⟩) hHeld ?_
        · intro u hu
          go_simp
        try simp only [Act.put, List.setIfInBounds_toArray, List.set_cons_zero, List.set_cons_succ]
        refine wpAnyH_take (i := 5) (oi := { dst := some 19, op := Op.nilCheck (Operand.tmp 18), type := 0, pos := _, after := #[{ on := 4, ground := Ground.data }], guard := none }) (v := .pointer (some ⟨gc, 0, none⟩)) rfl (by kernel_rfl) (by kernel_rfl) (by kernel_rfl) (fun _ _ _ h => h) (Or.inl ⟨by rfl, ?_⟩) hHeld ?_
        · intro u hu
          go_simp
        try simp only [Act.put, List.setIfInBounds_toArray, List.set_cons_zero, List.set_cons_succ]
        refine wpAnyH_take (i := 6) (oi := { dst := some 20, op := Op.fieldAddr 79 (Operand.tmp 19) 3, type := 0, pos := _, after := #[{ on := 5, ground := Ground.data }], guard := none }) (v := .pointer (some ⟨gc, 3, none⟩)) rfl (by kernel_rfl) (by kernel_rfl) (by kernel_rfl) (fun _ _ _ h => h) (Or.inl ⟨by rfl, ?_⟩) hHeld ?_
        · intro u hu
          go_simp
        try simp only [Act.put, List.setIfInBounds_toArray, List.set_cons_zero, List.set_cons_succ]
        refine wpAnyH_take (i := 7) (oi := { dst := some 21, op := Op.load 51 (Operand.tmp 20), type := 51, pos := _, after := #[{ on := 6, ground := Ground.data }], guard := none }) (v := .slice (some ⟨g0, 0, none⟩) l.length c0) rfl (by kernel_rfl) (by kernel_rfl) (by kernel_rfl) (fun _ _ _ h => h) (Or.inl ⟨by rfl, ?_⟩) hHeld ?_
        · intro u hu
          obtain ⟨x1, x2, x3, x4, x5⟩ := hu; go_simp
        try simp only [Act.put, List.setIfInBounds_toArray, List.set_cons_zero, List.set_cons_succ]
        refine wpAnyH_take (i := 8) (oi := { dst := some 22, op := Op.move (Operand.tmp 3), type := 3, pos := _, after := #[], guard := none }) (v := .int .i64 (k : Int)) rfl (by kernel_rfl) (by kernel_rfl) (by kernel_rfl) (fun _ _ _ h => h) (Or.inl ⟨by rfl, ?_⟩) hHeld ?_
        · intro u hu
          go_simp
        try simp only [Act.put, List.setIfInBounds_toArray, List.set_cons_zero, List.set_cons_succ]
        refine wpAnyH_take (i := 9) (oi := { dst := some 23, op := Op.indexAddr 51 (Operand.tmp 21) (Operand.tmp 22), type := 0, pos := _, after := #[{ on := 7, ground := Ground.data }, { on := 8, ground := Ground.data }], guard := none }) (v := .pointer (some ⟨g0, k, none⟩)) rfl (by kernel_rfl) (by kernel_rfl) (by kernel_rfl) (fun _ _ _ h => h) (Or.inl ⟨by rfl, ?_⟩) hHeld ?_
        · intro u hu
          go_simp
        try simp only [Act.put, List.setIfInBounds_toArray, List.set_cons_zero, List.set_cons_succ]
        refine wpAnyH_take (i := 10) (oi := { dst := some 24, op := Op.load 3 (Operand.tmp 23), type := 3, pos := _, after := #[{ on := 9, ground := Ground.data }], guard := none }) (v := .int .i64 e.1) rfl (by kernel_rfl) (by kernel_rfl) (by kernel_rfl) (fun _ _ _ h => h) (Or.inl ⟨by rfl, ?_⟩) hHeld ?_
        · intro u hu
          obtain ⟨x1, x2, x3, x4, x5⟩ := hu; go_simp
        try simp only [Act.put, List.setIfInBounds_toArray, List.set_cons_zero, List.set_cons_succ]
        refine wpAnyH_take (i := 11) (oi := { dst := some 25, op := Op.lookup 77 (Operand.tmp 17) (Operand.tmp 24) false, type := 83, pos := _, after := #[{ on := 3, ground := Ground.data }, { on := 10, ground := Ground.data }], guard := none }) (v := .pointer (some ⟨r, 0, none⟩)) rfl (by kernel_rfl) (by kernel_rfl) (by kernel_rfl) (fun _ _ _ h => h)
          (yields_M (by rfl) _ _ (by rfl) mp f (by rfl) e.1 (by rfl) hwe _ hf (fun u hu => hu.2.2.2.2)) hHeld ?_
        try simp only [Act.put, List.setIfInBounds_toArray, List.set_cons_zero, List.set_cons_succ]
        refine wpAnyH_take (i := 12) (oi := { dst := some 26, op := Op.nilCheck (Operand.tmp 25), type := 0, pos := _, after := #[{ on := 11, ground := Ground.data }], guard := none }) (v := .pointer (some ⟨r, 0, none⟩)) rfl (by kernel_rfl) (by kernel_rfl) (by kernel_rfl) (fun _ _ _ h => h) (Or.inl ⟨by rfl, ?_⟩) hHeld ?_
        · intro u hu
          go_simp
        try simp only [Act.put, List.setIfInBounds_toArray, List.set_cons_zero, List.set_cons_succ]
        refine wpAnyH_take (i := 13) (oi := { dst := some 27, op := Op.fieldAddr 85 (Operand.tmp 26) 2, type := 0, pos := _, after := #[{ on := 12, ground := Ground.data }], guard := none }) (v := .pointer (some ⟨r, 65, none⟩)) rfl (by kernel_rfl) (by kernel_rfl) (by kernel_rfl) (fun _ _ _ h => h) (Or.inl ⟨by rfl, ?_⟩) hHeld ?_
        · intro u hu
          go_simp
        try simp only [Act.put, List.setIfInBounds_toArray, List.set_cons_zero, List.set_cons_succ]
        refine wpAnyH_take (i := 14) (oi := { dst := some 28, op := Op.load 3 (Operand.tmp 27), type := 3, pos := _, after := #[{ on := 13, ground := Ground.data }], guard := none }) (v := .int .i64 e.2.pn) rfl (by kernel_rfl) (by kernel_rfl) (by kernel_rfl) (fun _ _ _ h => h) (Or.inl ⟨by rfl, ?_⟩) hHeld ?_
        · intro u hu
          obtain ⟨x1, x2, x3, x4, x5⟩ := hu; go_simp
        try simp only [Act.put, List.setIfInBounds_toArray, List.set_cons_zero, List.set_cons_succ]
        refine wpAnyH_take (i := 15) (oi := { dst := some 29, op := Op.binOp BinOp.eql 3 (Operand.tmp 28) (Operand.const (Value.int IntKind.i64 0)) 3, type := 4, pos := _, after := #[{ on := 14, ground := Ground.data }], guard := none }) (v := .bool true) rfl (by kernel_rfl) (by kernel_rfl) (by kernel_rfl) (fun _ _ _ h => h) (Or.inl ⟨by rfl, ?_⟩) hHeld ?_
        · intro u hu
          go_simp
        try simp only [Act.put, List.setIfInBounds_toArray, List.set_cons_zero, List.set_cons_succ]
        refine wpAnyH_done (by kernel_rfl) ?_ _
        go_wp2
        go_returns
        exact ⟨by rw [ho, ho2]; rfl, by go_grown⟩
      · rw [if_neg hp] at ho2
        refine wp_region_held_drew (S := fun u => u.cell? ⟨gc, 2, none⟩ = some (.map (some mp)) ∧ u.cell? ⟨gc, 3, none⟩ = some (.slice (some ⟨g0, 0, none⟩) l.length c0) ∧ u.cell? ⟨g0, k, none⟩ = some (.int .i64 e.1) ∧ u.cell? ⟨r, 65, none⟩ = some (.int .i64 e.2.pn) ∧ MpI Try.prog 3 u mp f) (by kernel_rfl) (hS _ (Below.refl _ _).drew) (fun hHeld => ?_)
        refine wpAnyH_take (i := 0) (oi := { dst := some 14, op := Op.move (Operand.tmp 0), type := 34, pos := _, after := #[], guard := none }) (v := .pointer (some ⟨gc, 0, none⟩)) rfl (by kernel_rfl) (by kernel_rfl) (by kernel_rfl) (fun _ _ _ h => h) (Or.inl ⟨by rfl, ?_⟩) hHeld ?_
        · intro u hu
          go_simp
        try simp only [Act.put, List.setIfInBounds_toArray, List.set_cons_zero, List.set_cons_succ]
        refine wpAnyH_take (i := 1) (oi := { dst := some 15, op := Op.nilCheck (Operand.tmp 14), type := 0, pos := _, after := #[{ on := 0, ground := Ground.data }], guard := none }) (v := .pointer (some ⟨gc, 0, none⟩)) rfl (by kernel_rfl) (by kernel_rfl) (by kernel_rfl) (fun _ _ _ h => h) (Or.inl ⟨by rfl, ?_⟩) hHeld ?_
        · intro u hu
          go_simp
        try simp only [Act.put, List.setIfInBounds_toArray, List.set_cons_zero, List.set_cons_succ]
        refine wpAnyH_take (i := 2) (oi := { dst := some 16, op := Op.fieldAddr 79 (Operand.tmp 15) 2, type := 0, pos := _, after := #[{ on := 1, ground := Ground.data }], guard := none }) (v := .pointer (some ⟨gc, 2, none⟩)) rfl (by kernel_rfl) (by kernel_rfl) (by kernel_rfl) (fun _ _ _ h => h) (Or.inl ⟨by rfl, ?_⟩) hHeld ?_
        · intro u hu
          go_simp
        try simp only [Act.put, List.setIfInBounds_toArray, List.set_cons_zero, List.set_cons_succ]
        refine wpAnyH_take (i := 3) (oi := { dst := some 17, op := Op.load 77 (Operand.tmp 16), type := 77, pos := _, after := #[{ on := 2, ground := Ground.data }], guard := none }) (v := .map (some mp)) rfl (by kernel_rfl) (by kernel_rfl) (by kernel_rfl) (fun _ _ _ h => h) (Or.inl ⟨by rfl, ?_⟩) hHeld ?_
        · intro u hu
          obtain ⟨x1, x2, x3, x4, x5⟩ := hu; go_simp
        try simp only [Act.put, List.setIfInBounds_toArray, List.set_cons_zero, List.set_cons_succ]
        refine wpAnyH_take (i := 4) (oi := { dst := some 18, op := Op.move (Operand.tmp 0), type := 34, pos := _, after := #[], guard := none }) (v := .pointer (some ⟨gc, 0, none⟩)) rfl (by kernel_rfl) (by kernel_rfl) (by kernel_rfl) (fun _ _ _ h => h) (Or.inl ⟨by rfl, ?_⟩) hHeld ?_
        · intro u hu
          go_simp
        try simp only [Act.put, List.setIfInBounds_toArray, List.set_cons_zero, List.set_cons_succ]
        refine wpAnyH_take (i := 5) (oi := { dst := some 19, op := Op.nilCheck (Operand.tmp 18), type := 0, pos := _, after := #[{ on := 4, ground := Ground.data }], guard := none }) (v := .pointer (some ⟨gc, 0, none⟩)) rfl (by kernel_rfl) (by kernel_rfl) (by kernel_rfl) (fun _ _ _ h => h) (Or.inl ⟨by rfl, ?_⟩) hHeld ?_
        · intro u hu
          go_simp
        try simp only [Act.put, List.setIfInBounds_toArray, List.set_cons_zero, List.set_cons_succ]
        refine wpAnyH_take (i := 6) (oi := { dst := some 20, op := Op.fieldAddr 79 (Operand.tmp 19) 3, type := 0, pos := _, after := #[{ on := 5, ground := Ground.data }], guard := none }) (v := .pointer (some ⟨gc, 3, none⟩)) rfl (by kernel_rfl) (by kernel_rfl) (by kernel_rfl) (fun _ _ _ h => h) (Or.inl ⟨by rfl, ?_⟩) hHeld ?_
        · intro u hu
          go_simp
        try simp only [Act.put, List.setIfInBounds_toArray, List.set_cons_zero, List.set_cons_succ]
        refine wpAnyH_take (i := 7) (oi := { dst := some 21, op := Op.load 51 (Operand.tmp 20), type := 51, pos := _, after := #[{ on := 6, ground := Ground.data }], guard := none }) (v := .slice (some ⟨g0, 0, none⟩) l.length c0) rfl (by kernel_rfl) (by kernel_rfl) (by kernel_rfl) (fun _ _ _ h => h) (Or.inl ⟨by rfl, ?_⟩) hHeld ?_
        · intro u hu
          obtain ⟨x1, x2, x3, x4, x5⟩ := hu; go_simp
        try simp only [Act.put, List.setIfInBounds_toArray, List.set_cons_zero, List.set_cons_succ]
        refine wpAnyH_take (i := 8) (oi := { dst := some 22, op := Op.move (Operand.tmp 3), type := 3, pos := _, after := #[], guard := none }) (v := .int .i64 (k : Int)) rfl (by kernel_rfl) (by kernel_rfl) (by kernel_rfl) (fun _ _ _ h => h) (Or.inl ⟨by rfl, ?_⟩) hHeld ?_
        · intro u hu
          go_simp
        try simp only [Act.put, List.setIfInBounds_toArray, List.set_cons_zero, List.set_cons_succ]
        refine wpAnyH_take (i := 9) (oi := { dst := some 23, op := Op.indexAddr 51 (Operand.tmp 21) (Operand.tmp 22), type := 0, pos := _, after := #[{ on := 7, ground := Ground.data }, { on := 8, ground := Ground.data }], guard := none }) (v := .pointer (some ⟨g0, k, none⟩)) rfl (by kernel_rfl) (by kernel_rfl) (by kernel_rfl) (fun _ _ _ h => h) (Or.inl ⟨by rfl, ?_⟩) hHeld ?_
        · intro u hu
          go_simp
        try simp only [Act.put, List.setIfInBounds_toArray, List.set_cons_zero, List.set_cons_succ]
        refine wpAnyH_take (i := 10) (oi := { dst := some 24, op := Op.load 3 (Operand.tmp 23), type := 3, pos := _, after := #[{ on := 9, ground := Ground.data }], guard := none }) (v := .int .i64 e.1) rfl (by kernel_rfl) (by kernel_rfl) (by kernel_rfl) (fun _ _ _ h => h) (Or.inl ⟨by rfl, ?_⟩) hHeld ?_
        · intro u hu
          obtain ⟨x1, x2, x3, x4, x5⟩ := hu; go_simp
        try simp only [Act.put, List.setIfInBounds_toArray, List.set_cons_zero, List.set_cons_succ]
        refine wpAnyH_take (i := 11) (oi := { dst := some 25, op := Op.lookup 77 (Operand.tmp 17) (Operand.tmp 24) false, type := 83, pos := _, after := #[{ on := 3, ground := Ground.data }, { on := 10, ground := Ground.data }], guard := none }) (v := .pointer (some ⟨r, 0, none⟩)) rfl (by kernel_rfl) (by kernel_rfl) (by kernel_rfl) (fun _ _ _ h => h)
          (yields_M (by rfl) _ _ (by rfl) mp f (by rfl) e.1 (by rfl) hwe _ hf (fun u hu => hu.2.2.2.2)) hHeld ?_
        try simp only [Act.put, List.setIfInBounds_toArray, List.set_cons_zero, List.set_cons_succ]
        refine wpAnyH_take (i := 12) (oi := { dst := some 26, op := Op.nilCheck (Operand.tmp 25), type := 0, pos := _, after := #[{ on := 11, ground := Ground.data }], guard := none }) (v := .pointer (some ⟨r, 0, none⟩)) rfl (by kernel_rfl) (by kernel_rfl) (by kernel_rfl) (fun _ _ _ h => h) (Or.inl ⟨by rfl, ?_⟩) hHeld ?_
        · intro u hu
          go_simp
        try simp only [Act.put, List.setIfInBounds_toArray, List.set_cons_zero, List.set_cons_succ]
        refine wpAnyH_take (i := 13) (oi := { dst := some 27, op := Op.fieldAddr 85 (Operand.tmp 26) 2, type := 0, pos := _, after := #[{ on := 12, ground := Ground.data }], guard := none }) (v := .pointer (some ⟨r, 65, none⟩)) rfl (by kernel_rfl) (by kernel_rfl) (by kernel_rfl) (fun _ _ _ h => h) (Or.inl ⟨by rfl, ?_⟩) hHeld ?_
        · intro u hu
          go_simp
        try simp only [Act.put, List.setIfInBounds_toArray, List.set_cons_zero, List.set_cons_succ]
        refine wpAnyH_take (i := 14) (oi := { dst := some 28, op := Op.load 3 (Operand.tmp 27), type := 3, pos := _, after := #[{ on := 13, ground := Ground.data }], guard := none }) (v := .int .i64 e.2.pn) rfl (by kernel_rfl) (by kernel_rfl) (by kernel_rfl) (fun _ _ _ h => h) (Or.inl ⟨by rfl, ?_⟩) hHeld ?_
        · intro u hu
          obtain ⟨x1, x2, x3, x4, x5⟩ := hu; go_simp
        try simp only [Act.put, List.setIfInBounds_toArray, List.set_cons_zero, List.set_cons_succ]
        refine wpAnyH_take (i := 15) (oi := { dst := some 29, op := Op.binOp BinOp.eql 3 (Operand.tmp 28) (Operand.const (Value.int IntKind.i64 0)) 3, type := 4, pos := _, after := #[{ on := 14, ground := Ground.data }], guard := none }) (v := .bool false) rfl (by kernel_rfl) (by kernel_rfl) (by kernel_rfl) (fun _ _ _ h => h) (Or.inl ⟨by rfl, ?_⟩) hHeld ?_
        · intro u hu
          go_simp
        try simp only [Act.put, List.setIfInBounds_toArray, List.set_cons_zero, List.set_cons_succ]
        refine wpAnyH_done (by kernel_rfl) ?_ _
        go_wp2
        go_roundw
        case rel => exact ⟨k, by omega, by go_num, by rw [ho, ho2], by go_grown⟩
        case measure => simp [intOf]
end Go.Proofs.Ytecedklfdmbnpaa
