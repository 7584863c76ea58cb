/-
  What one act of the law CachePlays leaves of both caches: no statement is proved here.
-/
import Derived.Test.YtecedklfdmbnpaaRcK
namespace Go.Proofs.Ytecedklfdmbnpaa
open Go.ChangeShapes Go.WideShapes Go.ChangeAt Go.RowKit
set_option linter.unusedVariables false
set_option linter.unusedSimpArgs false

/-- What an act leaves. -/
def Left (gc g gp yc y q : Nat) (U V : Nat → Prop) (t : Nat) (w w' : World) : Prop := ∃ Z' U' V', Bt w' gc g gp yc y q Z' U' V' ∧ Z'.ok (t + 66) ∧ Stp (Uv U V) w w' ∧ Grew (Uv U V) (Uv U' V') w w'
theorem Left.pre {gc g gp yc y q t : Nat} {U V : Nat → Prop} {w w1 w2 : World} (b : Below w.heap.size w w1) (h : Left gc g gp yc y q U V t w1 w2) : Left gc g gp yc y q U V t w w2 := by
  obtain ⟨Z', U', V', h1, h2, h3, h4⟩ := h
  exact ⟨Z', U', V', h1, h2, (Stp.of_below b _).trans h3, h4.pre b.size⟩
theorem Left.after {gc g gp yc y q t x : Nat} {U V : Nat → Prop} {w w1 w2 : World} (hx : w.heap.size ≤ x) (hb : x < w1.heap.size) (b : Below w.heap.size w w1) (h : Left gc g gp yc y q U V t w1 w2) : Left gc g gp yc y q U V t w w2 := Left.pre b h
set_option maxRecDepth 100000 in
set_option maxHeartbeats 2000000 in
theorem do_put3 {w : World} {gc g gp yc y q : Nat} {Z : CZ} {U V : Nat → Prop} {t : Nat} (H : Bt w gc g gp yc y q Z U V) (ok : Z.ok t) (ht : t ≤ 9000) (x : A3) (hx : x.ok) (hm : among x.d 14 = 3) :
    Calls Try.prog 12 #[.pointer (some ⟨gc, 0, none⟩), .pointer (some ⟨yc, 0, none⟩), .pointer (some ⟨gp, 0, none⟩), .pointer (some ⟨q, 0, none⟩), .agg x.cs.toArray] w fun e w' => e = .returned (.bool true) ∧ Left gc g gp yc y q U V t w w' := by
  have am := fun w => among_any x.d 14 w (by omega) (by omega)
  rw [hm] at am
  go_enter Try.func12, Try.ntmps12
  go_wp2_with (first
    | (refine at_boxA (by rfl) _ (by rfl) x (by rfl) ?_; intro gb w1 a1 l1 r1 b1
       have x0 := A3.c0 r1
       have x1 := A3.c1 r1)
    | (go_at_call 23; refine (am _).mono ?_; rintro e u ⟨rfl, rfl⟩; clear am)
    | fail)
  have H1 := H.later b1
  have hgb := H.far gb a1
  have hS : ∀ u, Stp (Uv U V) w1 u → (u.cell? ⟨gb, 1, none⟩ = some (.int .i64 x.t) ∧ u.rangeAt gb 2 x.b.cs) := fun u hu => ⟨hu.cell x1 hgb, hu.range (A3.rng r1) hgb⟩
  have HD := H1.later (Below.refl _ w1).drew
  have hP := put_ca HD.a ok ht x.t hx.t x.b
  refine wp_region_held_drew (S := fun u => u.cell? ⟨gb, 1, none⟩ = some (.int .i64 x.t) ∧ u.rangeAt gb 2 x.b.cs) (by kernel_rfl) (hS _ (Stp.refl _ w1).drew) (fun hHeld => ?_)
  refine wpAnyH_take (i := 0) (oi := { dst := some 22, op := Op.move (Operand.tmp 0), type := 34, pos := _, after := #[], guard := none }) (v := .pointer (some ⟨gc, 0, none⟩)) rfl (by kernel_rfl) (by kernel_rfl) (by kernel_rfl) (fun _ _ _ h => h) (Or.inl ⟨by rfl, ?_⟩) hHeld ?_
  · intro u hu
    go_simp
  try simp only [Act.put, List.setIfInBounds_toArray, List.set_cons_zero, List.set_cons_succ]
  refine wpAnyH_take (i := 1) (oi := { dst := some 23, op := Op.fieldAddr 44 (Operand.tmp 9) 1, type := 0, pos := _, after := #[], guard := none }) (v := .pointer (some ⟨gb, 1, none⟩)) rfl (by kernel_rfl) (by kernel_rfl) (by kernel_rfl) (fun _ _ _ h => h) (Or.inl ⟨by rfl, ?_⟩) hHeld ?_
  · intro u hu
    go_simp
  try simp only [Act.put, List.setIfInBounds_toArray, List.set_cons_zero, List.set_cons_succ]
  refine wpAnyH_take (i := 2) (oi := { dst := some 24, op := Op.load 3 (Operand.tmp 23), type := 3, pos := _, after := #[{ on := 1, ground := Ground.data }], guard := none }) (v := .int .i64 x.t) rfl (by kernel_rfl) (by kernel_rfl) (by kernel_rfl) (fun _ _ _ h => h) (Or.inl ⟨by rfl, ?_⟩) hHeld ?_
  · intro u hu
    have z1 := hu.1; go_simp
  try simp only [Act.put, List.setIfInBounds_toArray, List.set_cons_zero, List.set_cons_succ]
  refine wpAnyH_take (i := 3) (oi := { dst := some 25, op := Op.fieldAddr 44 (Operand.tmp 9) 2, type := 0, pos := _, after := #[], guard := none }) (v := .pointer (some ⟨gb, 2, none⟩)) rfl (by kernel_rfl) (by kernel_rfl) (by kernel_rfl) (fun _ _ _ h => h) (Or.inl ⟨by rfl, ?_⟩) hHeld ?_
  · intro u hu
    go_simp
  try simp only [Act.put, List.setIfInBounds_toArray, List.set_cons_zero, List.set_cons_succ]
  refine wpAnyH_take (i := 4) (oi := { dst := some 26, op := Op.load 42 (Operand.tmp 25), type := 42, pos := _, after := #[{ on := 3, ground := Ground.data }], guard := none }) (v := .agg x.b.cs.toArray) rfl (by kernel_rfl) (by kernel_rfl) (by kernel_rfl) (fun _ _ _ h => h)
    (yields_B (by rfl) _ (by rfl) gb 2 (by rfl) x.b (fun u hu => hu.2)) hHeld ?_
  try simp only [Act.put, List.setIfInBounds_toArray, List.set_cons_zero, List.set_cons_succ]
  refine wpAnyH_take (i := 6) (oi := { dst := some 28, op := Op.move (Operand.tmp 1), type := 37, pos := _, after := #[], guard := none }) (v := .pointer (some ⟨yc, 0, none⟩)) rfl (by kernel_rfl) (by kernel_rfl) (by kernel_rfl) (fun _ _ _ h => h) (Or.inl ⟨by rfl, ?_⟩) hHeld ?_
  · intro u hu
    go_simp
  try simp only [Act.put, List.setIfInBounds_toArray, List.set_cons_zero, List.set_cons_succ]
  refine wpAnyH_take (i := 7) (oi := { dst := some 29, op := Op.fieldAddr 44 (Operand.tmp 9) 1, type := 0, pos := _, after := #[], guard := none }) (v := .pointer (some ⟨gb, 1, none⟩)) rfl (by kernel_rfl) (by kernel_rfl) (by kernel_rfl) (fun _ _ _ h => h) (Or.inl ⟨by rfl, ?_⟩) hHeld ?_
  · intro u hu
    go_simp
  try simp only [Act.put, List.setIfInBounds_toArray, List.set_cons_zero, List.set_cons_succ]
  refine wpAnyH_take (i := 8) (oi := { dst := some 30, op := Op.load 3 (Operand.tmp 29), type := 3, pos := _, after := #[{ on := 7, ground := Ground.data }], guard := none }) (v := .int .i64 x.t) rfl (by kernel_rfl) (by kernel_rfl) (by kernel_rfl) (fun _ _ _ h => h) (Or.inl ⟨by rfl, ?_⟩) hHeld ?_
  · intro u hu
    have z1 := hu.1; go_simp
  try simp only [Act.put, List.setIfInBounds_toArray, List.set_cons_zero, List.set_cons_succ]
  refine wpAnyH_take (i := 9) (oi := { dst := some 31, op := Op.fieldAddr 44 (Operand.tmp 9) 2, type := 0, pos := _, after := #[], guard := none }) (v := .pointer (some ⟨gb, 2, none⟩)) rfl (by kernel_rfl) (by kernel_rfl) (by kernel_rfl) (fun _ _ _ h => h) (Or.inl ⟨by rfl, ?_⟩) hHeld ?_
  · intro u hu
    go_simp
  try simp only [Act.put, List.setIfInBounds_toArray, List.set_cons_zero, List.set_cons_succ]
  refine wpAnyH_take (i := 10) (oi := { dst := some 32, op := Op.load 42 (Operand.tmp 31), type := 42, pos := _, after := #[{ on := 9, ground := Ground.data }], guard := none }) (v := .agg x.b.cs.toArray) rfl (by kernel_rfl) (by kernel_rfl) (by kernel_rfl) (fun _ _ _ h => h)
    (yields_B (by rfl) _ (by rfl) gb 2 (by rfl) x.b (fun u hu => hu.2)) hHeld ?_
  try simp only [Act.put, List.setIfInBounds_toArray, List.set_cons_zero, List.set_cons_succ]
  refine wpAnyH_ready (rs := [5]) (by kernel_rfl) (by simp) ?_
  refine (AllReadyH.cons (o := { dst := some 27, op := Op.call { callee := Callee.value (Operand.func 24), args := #[Operand.tmp 22, Operand.tmp 24, Operand.tmp 26], argTypes := #[34, 3, 42] }, type := 28, pos := _, after := #[{ on := 0, ground := Ground.data }, { on := 2, ground := Ground.data }, { on := 4, ground := Ground.data }], guard := none }) rfl (fun K hK => ?_) AllReadyH.nil)
  go_simp
  refine hP.mono ?_
  rintro e w2 ⟨rfl, U2, c2, s2, g2⟩
  try go_wp2_with fail
  have hk2 : Stp (Uv U V) w1 w2 := ((Stp.refl (Uv U V) w1).drew).trans (s2.mono (fun x e => .inl (.inl e)))
  have hRr := (fun h => rput_ra h ok ht x.t hx.t x.b) (HD.mid s2)
  refine hK.out _ _ (hS _ hk2) (fun hHeld => ?_)
  clear hK K
  try simp only [Act.put, List.setIfInBounds_toArray, List.set_cons_zero, List.set_cons_succ]
  refine wpAnyH_ready (rs := [11]) (by kernel_rfl) (by simp) ?_
  refine (AllReadyH.cons (o := { dst := some 33, op := Op.call { callee := Callee.value (Operand.func 32), args := #[Operand.tmp 28, Operand.tmp 30, Operand.tmp 32], argTypes := #[37, 3, 42] }, type := 28, pos := _, after := #[{ on := 6, ground := Ground.data }, { on := 8, ground := Ground.data }, { on := 10, ground := Ground.data }, { on := 5, ground := Ground.chain }], guard := none }) rfl (fun K hK => ?_) AllReadyH.nil)
  go_simp
  refine hRr.mono ?_
  rintro e w3 ⟨rfl, hr3⟩
  try go_wp2_with fail
  have hk3 : Stp (Uv U V) w1 w3 := by obtain ⟨V3, b3, s3, g3⟩ := hr3; exact hk2.next s3 (fun x e => .inl (.inr e))
  refine hK.out _ _ (hS _ hk3) (fun hHeld => ?_)
  clear hK K
  try simp only [Act.put, List.setIfInBounds_toArray, List.set_cons_zero, List.set_cons_succ]
  refine wpAnyH_take (i := 12) (oi := { dst := some 34, op := Op.binOp BinOp.eql 28 (Operand.tmp 27) (Operand.tmp 33) 28, type := 4, pos := _, after := #[{ on := 5, ground := Ground.data }, { on := 11, ground := Ground.data }], guard := none }) (v := .bool true) rfl (by kernel_rfl) (by kernel_rfl) (by kernel_rfl) (fun _ _ _ h => h) (Or.inl ⟨by rfl, ?_⟩) hHeld ?_
  · intro u hu
    go_simp
  try simp only [Act.put, List.setIfInBounds_toArray, List.set_cons_zero, List.set_cons_succ]
  refine wpAnyH_take (i := 13) (oi := { dst := some 10, op := Op.assign (Operand.tmp 34), type := 4, pos := _, after := #[{ on := 12, ground := Ground.data }, { on := 11, ground := Ground.chain }, { on := 0, ground := Ground.phase }, { on := 1, ground := Ground.phase }, { on := 2, ground := Ground.phase }, { on := 3, ground := Ground.phase }, { on := 4, ground := Ground.phase }, { on := 5, ground := Ground.phase }, { on := 6, ground := Ground.phase }, { on := 7, ground := Ground.phase }, { on := 8, ground := Ground.phase }, { on := 9, ground := Ground.phase }, { on := 10, ground := Ground.phase }, { on := 11, ground := Ground.phase }, { on := 12, ground := Ground.phase }], guard := none }) (v := .bool true) rfl (by kernel_rfl) (by kernel_rfl) (by kernel_rfl) (fun _ _ _ h => h) (Or.inl ⟨by rfl, ?_⟩) hHeld ?_
  · intro u hu
    go_simp
  try simp only [Act.put, List.setIfInBounds_toArray, List.set_cons_zero, List.set_cons_succ]
  refine wpAnyH_done (by kernel_rfl) ?_ _
  clear hHeld hS
  go_wp2_with fail
  go_returns
  obtain ⟨U', V', h1, h2, h3⟩ := (H1.later (Below.refl _ w1).drew).pair c2 s2 g2 hr3
  exact ⟨by simp, Left.pre b1 ⟨_, U', V', h1, (ok.put _ _).mono (by omega), ((Stp.refl _ w1).drew).trans h2, h3⟩⟩
set_option maxRecDepth 100000 in
set_option maxHeartbeats 2000000 in
theorem do_put4 {w : World} {gc g gp yc y q : Nat} {Z : CZ} {U V : Nat → Prop} {t : Nat} (H : Bt w gc g gp yc y q Z U V) (ok : Z.ok t) (ht : t ≤ 9000) (x : A3) (hx : x.ok) (hm : among x.d 14 = 4) :
    Calls Try.prog 12 #[.pointer (some ⟨gc, 0, none⟩), .pointer (some ⟨yc, 0, none⟩), .pointer (some ⟨gp, 0, none⟩), .pointer (some ⟨q, 0, none⟩), .agg x.cs.toArray] w fun e w' => e = .returned (.bool true) ∧ Left gc g gp yc y q U V t w w' := by
  have am := fun w => among_any x.d 14 w (by omega) (by omega)
  rw [hm] at am
  go_enter Try.func12, Try.ntmps12
  go_wp2_with (first
    | (refine at_boxA (by rfl) _ (by rfl) x (by rfl) ?_; intro gb w1 a1 l1 r1 b1
       have x0 := A3.c0 r1
       have x1 := A3.c1 r1)
    | (go_at_call 23; refine (am _).mono ?_; rintro e u ⟨rfl, rfl⟩; clear am)
    | fail)
  have H1 := H.later b1
  have hgb := H.far gb a1
  have hS : ∀ u, Stp (Uv U V) w1 u → (u.cell? ⟨gb, 1, none⟩ = some (.int .i64 x.t) ∧ u.rangeAt gb 2 x.b.cs) := fun u hu => ⟨hu.cell x1 hgb, hu.range (A3.rng r1) hgb⟩
  have HD := H1.later (Below.refl _ w1).drew
  have hP := put_ca HD.a ok ht x.t hx.t x.b
  refine wp_region_held_drew (S := fun u => u.cell? ⟨gb, 1, none⟩ = some (.int .i64 x.t) ∧ u.rangeAt gb 2 x.b.cs) (by kernel_rfl) (hS _ (Stp.refl _ w1).drew) (fun hHeld => ?_)
  refine wpAnyH_take (i := 0) (oi := { dst := some 22, op := Op.move (Operand.tmp 0), type := 34, pos := _, after := #[], guard := none }) (v := .pointer (some ⟨gc, 0, none⟩)) rfl (by kernel_rfl) (by kernel_rfl) (by kernel_rfl) (fun _ _ _ h => h) (Or.inl ⟨by rfl, ?_⟩) hHeld ?_
  · intro u hu
    go_simp
  try simp only [Act.put, List.setIfInBounds_toArray, List.set_cons_zero, List.set_cons_succ]
  refine wpAnyH_take (i := 1) (oi := { dst := some 23, op := Op.fieldAddr 44 (Operand.tmp 9) 1, type := 0, pos := _, after := #[], guard := none }) (v := .pointer (some ⟨gb, 1, none⟩)) rfl (by kernel_rfl) (by kernel_rfl) (by kernel_rfl) (fun _ _ _ h => h) (Or.inl ⟨by rfl, ?_⟩) hHeld ?_
  · intro u hu
    go_simp
  try simp only [Act.put, List.setIfInBounds_toArray, List.set_cons_zero, List.set_cons_succ]
  refine wpAnyH_take (i := 2) (oi := { dst := some 24, op := Op.load 3 (Operand.tmp 23), type := 3, pos := _, after := #[{ on := 1, ground := Ground.data }], guard := none }) (v := .int .i64 x.t) rfl (by kernel_rfl) (by kernel_rfl) (by kernel_rfl) (fun _ _ _ h => h) (Or.inl ⟨by rfl, ?_⟩) hHeld ?_
  · intro u hu
    have z1 := hu.1; go_simp
  try simp only [Act.put, List.setIfInBounds_toArray, List.set_cons_zero, List.set_cons_succ]
  refine wpAnyH_take (i := 3) (oi := { dst := some 25, op := Op.fieldAddr 44 (Operand.tmp 9) 2, type := 0, pos := _, after := #[], guard := none }) (v := .pointer (some ⟨gb, 2, none⟩)) rfl (by kernel_rfl) (by kernel_rfl) (by kernel_rfl) (fun _ _ _ h => h) (Or.inl ⟨by rfl, ?_⟩) hHeld ?_
  · intro u hu
    go_simp
  try simp only [Act.put, List.setIfInBounds_toArray, List.set_cons_zero, List.set_cons_succ]
  refine wpAnyH_take (i := 4) (oi := { dst := some 26, op := Op.load 42 (Operand.tmp 25), type := 42, pos := _, after := #[{ on := 3, ground := Ground.data }], guard := none }) (v := .agg x.b.cs.toArray) rfl (by kernel_rfl) (by kernel_rfl) (by kernel_rfl) (fun _ _ _ h => h)
    (yields_B (by rfl) _ (by rfl) gb 2 (by rfl) x.b (fun u hu => hu.2)) hHeld ?_
  try simp only [Act.put, List.setIfInBounds_toArray, List.set_cons_zero, List.set_cons_succ]
  refine wpAnyH_take (i := 6) (oi := { dst := some 28, op := Op.move (Operand.tmp 1), type := 37, pos := _, after := #[], guard := none }) (v := .pointer (some ⟨yc, 0, none⟩)) rfl (by kernel_rfl) (by kernel_rfl) (by kernel_rfl) (fun _ _ _ h => h) (Or.inl ⟨by rfl, ?_⟩) hHeld ?_
  · intro u hu
    go_simp
  try simp only [Act.put, List.setIfInBounds_toArray, List.set_cons_zero, List.set_cons_succ]
  refine wpAnyH_take (i := 7) (oi := { dst := some 29, op := Op.fieldAddr 44 (Operand.tmp 9) 1, type := 0, pos := _, after := #[], guard := none }) (v := .pointer (some ⟨gb, 1, none⟩)) rfl (by kernel_rfl) (by kernel_rfl) (by kernel_rfl) (fun _ _ _ h => h) (Or.inl ⟨by rfl, ?_⟩) hHeld ?_
  · intro u hu
    go_simp
  try simp only [Act.put, List.setIfInBounds_toArray, List.set_cons_zero, List.set_cons_succ]
  refine wpAnyH_take (i := 8) (oi := { dst := some 30, op := Op.load 3 (Operand.tmp 29), type := 3, pos := _, after := #[{ on := 7, ground := Ground.data }], guard := none }) (v := .int .i64 x.t) rfl (by kernel_rfl) (by kernel_rfl) (by kernel_rfl) (fun _ _ _ h => h) (Or.inl ⟨by rfl, ?_⟩) hHeld ?_
  · intro u hu
    have z1 := hu.1; go_simp
  try simp only [Act.put, List.setIfInBounds_toArray, List.set_cons_zero, List.set_cons_succ]
  refine wpAnyH_take (i := 9) (oi := { dst := some 31, op := Op.fieldAddr 44 (Operand.tmp 9) 2, type := 0, pos := _, after := #[], guard := none }) (v := .pointer (some ⟨gb, 2, none⟩)) rfl (by kernel_rfl) (by kernel_rfl) (by kernel_rfl) (fun _ _ _ h => h) (Or.inl ⟨by rfl, ?_⟩) hHeld ?_
  · intro u hu
    go_simp
  try simp only [Act.put, List.setIfInBounds_toArray, List.set_cons_zero, List.set_cons_succ]
  refine wpAnyH_take (i := 10) (oi := { dst := some 32, op := Op.load 42 (Operand.tmp 31), type := 42, pos := _, after := #[{ on := 9, ground := Ground.data }], guard := none }) (v := .agg x.b.cs.toArray) rfl (by kernel_rfl) (by kernel_rfl) (by kernel_rfl) (fun _ _ _ h => h)
    (yields_B (by rfl) _ (by rfl) gb 2 (by rfl) x.b (fun u hu => hu.2)) hHeld ?_
  try simp only [Act.put, List.setIfInBounds_toArray, List.set_cons_zero, List.set_cons_succ]
  refine wpAnyH_ready (rs := [5]) (by kernel_rfl) (by simp) ?_
  refine (AllReadyH.cons (o := { dst := some 27, op := Op.call { callee := Callee.value (Operand.func 24), args := #[Operand.tmp 22, Operand.tmp 24, Operand.tmp 26], argTypes := #[34, 3, 42] }, type := 28, pos := _, after := #[{ on := 0, ground := Ground.data }, { on := 2, ground := Ground.data }, { on := 4, ground := Ground.data }], guard := none }) rfl (fun K hK => ?_) AllReadyH.nil)
  go_simp
  refine hP.mono ?_
  rintro e w2 ⟨rfl, U2, c2, s2, g2⟩
  try go_wp2_with fail
  have hk2 : Stp (Uv U V) w1 w2 := ((Stp.refl (Uv U V) w1).drew).trans (s2.mono (fun x e => .inl (.inl e)))
  have hRr := (fun h => rput_ra h ok ht x.t hx.t x.b) (HD.mid s2)
  refine hK.out _ _ (hS _ hk2) (fun hHeld => ?_)
  clear hK K
  try simp only [Act.put, List.setIfInBounds_toArray, List.set_cons_zero, List.set_cons_succ]
  refine wpAnyH_ready (rs := [11]) (by kernel_rfl) (by simp) ?_
  refine (AllReadyH.cons (o := { dst := some 33, op := Op.call { callee := Callee.value (Operand.func 32), args := #[Operand.tmp 28, Operand.tmp 30, Operand.tmp 32], argTypes := #[37, 3, 42] }, type := 28, pos := _, after := #[{ on := 6, ground := Ground.data }, { on := 8, ground := Ground.data }, { on := 10, ground := Ground.data }, { on := 5, ground := Ground.chain }], guard := none }) rfl (fun K hK => ?_) AllReadyH.nil)
  go_simp
  refine hRr.mono ?_
  rintro e w3 ⟨rfl, hr3⟩
  try go_wp2_with fail
  have hk3 : Stp (Uv U V) w1 w3 := by obtain ⟨V3, b3, s3, g3⟩ := hr3; exact hk2.next s3 (fun x e => .inl (.inr e))
  refine hK.out _ _ (hS _ hk3) (fun hHeld => ?_)
  clear hK K
  try simp only [Act.put, List.setIfInBounds_toArray, List.set_cons_zero, List.set_cons_succ]
  refine wpAnyH_take (i := 12) (oi := { dst := some 34, op := Op.binOp BinOp.eql 28 (Operand.tmp 27) (Operand.tmp 33) 28, type := 4, pos := _, after := #[{ on := 5, ground := Ground.data }, { on := 11, ground := Ground.data }], guard := none }) (v := .bool true) rfl (by kernel_rfl) (by kernel_rfl) (by kernel_rfl) (fun _ _ _ h => h) (Or.inl ⟨by rfl, ?_⟩) hHeld ?_
  · intro u hu
    go_simp
  try simp only [Act.put, List.setIfInBounds_toArray, List.set_cons_zero, List.set_cons_succ]
  refine wpAnyH_take (i := 13) (oi := { dst := some 10, op := Op.assign (Operand.tmp 34), type := 4, pos := _, after := #[{ on := 12, ground := Ground.data }, { on := 11, ground := Ground.chain }, { on := 0, ground := Ground.phase }, { on := 1, ground := Ground.phase }, { on := 2, ground := Ground.phase }, { on := 3, ground := Ground.phase }, { on := 4, ground := Ground.phase }, { on := 5, ground := Ground.phase }, { on := 6, ground := Ground.phase }, { on := 7, ground := Ground.phase }, { on := 8, ground := Ground.phase }, { on := 9, ground := Ground.phase }, { on := 10, ground := Ground.phase }, { on := 11, ground := Ground.phase }, { on := 12, ground := Ground.phase }], guard := none }) (v := .bool true) rfl (by kernel_rfl) (by kernel_rfl) (by kernel_rfl) (fun _ _ _ h => h) (Or.inl ⟨by rfl, ?_⟩) hHeld ?_
  · intro u hu
    go_simp
  try simp only [Act.put, List.setIfInBounds_toArray, List.set_cons_zero, List.set_cons_succ]
  refine wpAnyH_done (by kernel_rfl) ?_ _
  clear hHeld hS
  go_wp2_with fail
  go_returns
  obtain ⟨U', V', h1, h2, h3⟩ := (H1.later (Below.refl _ w1).drew).pair c2 s2 g2 hr3
  exact ⟨by simp, Left.pre b1 ⟨_, U', V', h1, (ok.put _ _).mono (by omega), ((Stp.refl _ w1).drew).trans h2, h3⟩⟩
set_option maxRecDepth 100000 in
set_option maxHeartbeats 2000000 in
theorem do_put5 {w : World} {gc g gp yc y q : Nat} {Z : CZ} {U V : Nat → Prop} {t : Nat} (H : Bt w gc g gp yc y q Z U V) (ok : Z.ok t) (ht : t ≤ 9000) (x : A3) (hx : x.ok) (hm : among x.d 14 = 5) :
    Calls Try.prog 12 #[.pointer (some ⟨gc, 0, none⟩), .pointer (some ⟨yc, 0, none⟩), .pointer (some ⟨gp, 0, none⟩), .pointer (some ⟨q, 0, none⟩), .agg x.cs.toArray] w fun e w' => e = .returned (.bool true) ∧ Left gc g gp yc y q U V t w w' := by
  have am := fun w => among_any x.d 14 w (by omega) (by omega)
  rw [hm] at am
  go_enter Try.func12, Try.ntmps12
  go_wp2_with (first
    | (refine at_boxA (by rfl) _ (by rfl) x (by rfl) ?_; intro gb w1 a1 l1 r1 b1
       have x0 := A3.c0 r1
       have x1 := A3.c1 r1)
    | (go_at_call 23; refine (am _).mono ?_; rintro e u ⟨rfl, rfl⟩; clear am)
    | fail)
  have H1 := H.later b1
  have hgb := H.far gb a1
  have hS : ∀ u, Stp (Uv U V) w1 u → (u.cell? ⟨gb, 1, none⟩ = some (.int .i64 x.t) ∧ u.rangeAt gb 2 x.b.cs) := fun u hu => ⟨hu.cell x1 hgb, hu.range (A3.rng r1) hgb⟩
  have HD := H1.later (Below.refl _ w1).drew
  have hP := put_ca HD.a ok ht x.t hx.t x.b
  refine wp_region_held_drew (S := fun u => u.cell? ⟨gb, 1, none⟩ = some (.int .i64 x.t) ∧ u.rangeAt gb 2 x.b.cs) (by kernel_rfl) (hS _ (Stp.refl _ w1).drew) (fun hHeld => ?_)
  refine wpAnyH_take (i := 0) (oi := { dst := some 22, op := Op.move (Operand.tmp 0), type := 34, pos := _, after := #[], guard := none }) (v := .pointer (some ⟨gc, 0, none⟩)) rfl (by kernel_rfl) (by kernel_rfl) (by kernel_rfl) (fun _ _ _ h => h) (Or.inl ⟨by rfl, ?_⟩) hHeld ?_
  · intro u hu
    go_simp
  try simp only [Act.put, List.setIfInBounds_toArray, List.set_cons_zero, List.set_cons_succ]
  refine wpAnyH_take (i := 1) (oi := { dst := some 23, op := Op.fieldAddr 44 (Operand.tmp 9) 1, type := 0, pos := _, after := #[], guard := none }) (v := .pointer (some ⟨gb, 1, none⟩)) rfl (by kernel_rfl) (by kernel_rfl) (by kernel_rfl) (fun _ _ _ h => h) (Or.inl ⟨by rfl, ?_⟩) hHeld ?_
  · intro u hu
    go_simp
  try simp only [Act.put, List.setIfInBounds_toArray, List.set_cons_zero, List.set_cons_succ]
  refine wpAnyH_take (i := 2) (oi := { dst := some 24, op := Op.load 3 (Operand.tmp 23), type := 3, pos := _, after := #[{ on := 1, ground := Ground.data }], guard := none }) (v := .int .i64 x.t) rfl (by kernel_rfl) (by kernel_rfl) (by kernel_rfl) (fun _ _ _ h => h) (Or.inl ⟨by rfl, ?_⟩) hHeld ?_
  · intro u hu
    have z1 := hu.1; go_simp
  try simp only [Act.put, List.setIfInBounds_toArray, List.set_cons_zero, List.set_cons_succ]
  refine wpAnyH_take (i := 3) (oi := { dst := some 25, op := Op.fieldAddr 44 (Operand.tmp 9) 2, type := 0, pos := _, after := #[], guard := none }) (v := .pointer (some ⟨gb, 2, none⟩)) rfl (by kernel_rfl) (by kernel_rfl) (by kernel_rfl) (fun _ _ _ h => h) (Or.inl ⟨by rfl, ?_⟩) hHeld ?_
  · intro u hu
    go_simp
  try simp only [Act.put, List.setIfInBounds_toArray, List.set_cons_zero, List.set_cons_succ]
  refine wpAnyH_take (i := 4) (oi := { dst := some 26, op := Op.load 42 (Operand.tmp 25), type := 42, pos := _, after := #[{ on := 3, ground := Ground.data }], guard := none }) (v := .agg x.b.cs.toArray) rfl (by kernel_rfl) (by kernel_rfl) (by kernel_rfl) (fun _ _ _ h => h)
    (yields_B (by rfl) _ (by rfl) gb 2 (by rfl) x.b (fun u hu => hu.2)) hHeld ?_
  try simp only [Act.put, List.setIfInBounds_toArray, List.set_cons_zero, List.set_cons_succ]
  refine wpAnyH_take (i := 6) (oi := { dst := some 28, op := Op.move (Operand.tmp 1), type := 37, pos := _, after := #[], guard := none }) (v := .pointer (some ⟨yc, 0, none⟩)) rfl (by kernel_rfl) (by kernel_rfl) (by kernel_rfl) (fun _ _ _ h => h) (Or.inl ⟨by rfl, ?_⟩) hHeld ?_
  · intro u hu
    go_simp
  try simp only [Act.put, List.setIfInBounds_toArray, List.set_cons_zero, List.set_cons_succ]
  refine wpAnyH_take (i := 7) (oi := { dst := some 29, op := Op.fieldAddr 44 (Operand.tmp 9) 1, type := 0, pos := _, after := #[], guard := none }) (v := .pointer (some ⟨gb, 1, none⟩)) rfl (by kernel_rfl) (by kernel_rfl) (by kernel_rfl) (fun _ _ _ h => h) (Or.inl ⟨by rfl, ?_⟩) hHeld ?_
  · intro u hu
    go_simp
  try simp only [Act.put, List.setIfInBounds_toArray, List.set_cons_zero, List.set_cons_succ]
  refine wpAnyH_take (i := 8) (oi := { dst := some 30, op := Op.load 3 (Operand.tmp 29), type := 3, pos := _, after := #[{ on := 7, ground := Ground.data }], guard := none }) (v := .int .i64 x.t) rfl (by kernel_rfl) (by kernel_rfl) (by kernel_rfl) (fun _ _ _ h => h) (Or.inl ⟨by rfl, ?_⟩) hHeld ?_
  · intro u hu
    have z1 := hu.1; go_simp
  try simp only [Act.put, List.setIfInBounds_toArray, List.set_cons_zero, List.set_cons_succ]
  refine wpAnyH_take (i := 9) (oi := { dst := some 31, op := Op.fieldAddr 44 (Operand.tmp 9) 2, type := 0, pos := _, after := #[], guard := none }) (v := .pointer (some ⟨gb, 2, none⟩)) rfl (by kernel_rfl) (by kernel_rfl) (by kernel_rfl) (fun _ _ _ h => h) (Or.inl ⟨by rfl, ?_⟩) hHeld ?_
  · intro u hu
    go_simp
  try simp only [Act.put, List.setIfInBounds_toArray, List.set_cons_zero, List.set_cons_succ]
  refine wpAnyH_take (i := 10) (oi := { dst := some 32, op := Op.load 42 (Operand.tmp 31), type := 42, pos := _, after := #[{ on := 9, ground := Ground.data }], guard := none }) (v := .agg x.b.cs.toArray) rfl (by kernel_rfl) (by kernel_rfl) (by kernel_rfl) (fun _ _ _ h => h)
    (yields_B (by rfl) _ (by rfl) gb 2 (by rfl) x.b (fun u hu => hu.2)) hHeld ?_
  try simp only [Act.put, List.setIfInBounds_toArray, List.set_cons_zero, List.set_cons_succ]
  refine wpAnyH_ready (rs := [5]) (by kernel_rfl) (by simp) ?_
  refine (AllReadyH.cons (o := { dst := some 27, op := Op.call { callee := Callee.value (Operand.func 24), args := #[Operand.tmp 22, Operand.tmp 24, Operand.tmp 26], argTypes := #[34, 3, 42] }, type := 28, pos := _, after := #[{ on := 0, ground := Ground.data }, { on := 2, ground := Ground.data }, { on := 4, ground := Ground.data }], guard := none }) rfl (fun K hK => ?_) AllReadyH.nil)
  go_simp
  refine hP.mono ?_
  rintro e w2 ⟨rfl, U2, c2, s2, g2⟩
  try go_wp2_with fail
  have hk2 : Stp (Uv U V) w1 w2 := ((Stp.refl (Uv U V) w1).drew).trans (s2.mono (fun x e => .inl (.inl e)))
  have hRr := (fun h => rput_ra h ok ht x.t hx.t x.b) (HD.mid s2)
  refine hK.out _ _ (hS _ hk2) (fun hHeld => ?_)
  clear hK K
  try simp only [Act.put, List.setIfInBounds_toArray, List.set_cons_zero, List.set_cons_succ]
  refine wpAnyH_ready (rs := [11]) (by kernel_rfl) (by simp) ?_
  refine (AllReadyH.cons (o := { dst := some 33, op := Op.call { callee := Callee.value (Operand.func 32), args := #[Operand.tmp 28, Operand.tmp 30, Operand.tmp 32], argTypes := #[37, 3, 42] }, type := 28, pos := _, after := #[{ on := 6, ground := Ground.data }, { on := 8, ground := Ground.data }, { on := 10, ground := Ground.data }, { on := 5, ground := Ground.chain }], guard := none }) rfl (fun K hK => ?_) AllReadyH.nil)
  go_simp
  refine hRr.mono ?_
  rintro e w3 ⟨rfl, hr3⟩
  try go_wp2_with fail
  have hk3 : Stp (Uv U V) w1 w3 := by obtain ⟨V3, b3, s3, g3⟩ := hr3; exact hk2.next s3 (fun x e => .inl (.inr e))
  refine hK.out _ _ (hS _ hk3) (fun hHeld => ?_)
  clear hK K
  try simp only [Act.put, List.setIfInBounds_toArray, List.set_cons_zero, List.set_cons_succ]
  refine wpAnyH_take (i := 12) (oi := { dst := some 34, op := Op.binOp BinOp.eql 28 (Operand.tmp 27) (Operand.tmp 33) 28, type := 4, pos := _, after := #[{ on := 5, ground := Ground.data }, { on := 11, ground := Ground.data }], guard := none }) (v := .bool true) rfl (by kernel_rfl) (by kernel_rfl) (by kernel_rfl) (fun _ _ _ h => h) (Or.inl ⟨by rfl, ?_⟩) hHeld ?_
  · intro u hu
    go_simp
  try simp only [Act.put, List.setIfInBounds_toArray, List.set_cons_zero, List.set_cons_succ]
  refine wpAnyH_take (i := 13) (oi := { dst := some 10, op := Op.assign (Operand.tmp 34), type := 4, pos := _, after := #[{ on := 12, ground := Ground.data }, { on := 11, ground := Ground.chain }, { on := 0, ground := Ground.phase }, { on := 1, ground := Ground.phase }, { on := 2, ground := Ground.phase }, { on := 3, ground := Ground.phase }, { on := 4, ground := Ground.phase }, { on := 5, ground := Ground.phase }, { on := 6, ground := Ground.phase }, { on := 7, ground := Ground.phase }, { on := 8, ground := Ground.phase }, { on := 9, ground := Ground.phase }, { on := 10, ground := Ground.phase }, { on := 11, ground := Ground.phase }, { on := 12, ground := Ground.phase }], guard := none }) (v := .bool true) rfl (by kernel_rfl) (by kernel_rfl) (by kernel_rfl) (fun _ _ _ h => h) (Or.inl ⟨by rfl, ?_⟩) hHeld ?_
  · intro u hu
    go_simp
  try simp only [Act.put, List.setIfInBounds_toArray, List.set_cons_zero, List.set_cons_succ]
  refine wpAnyH_done (by kernel_rfl) ?_ _
  clear hHeld hS
  go_wp2_with fail
  go_returns
  obtain ⟨U', V', h1, h2, h3⟩ := (H1.later (Below.refl _ w1).drew).pair c2 s2 g2 hr3
  exact ⟨by simp, Left.pre b1 ⟨_, U', V', h1, (ok.put _ _).mono (by omega), ((Stp.refl _ w1).drew).trans h2, h3⟩⟩
set_option maxRecDepth 100000 in
set_option maxHeartbeats 2000000 in
theorem do_force {w : World} {gc g gp yc y q : Nat} {Z : CZ} {U V : Nat → Prop} {t : Nat} (H : Bt w gc g gp yc y q Z U V) (ok : Z.ok t) (ht : t ≤ 9000) (x : A3) (hx : x.ok) (hm : among x.d 14 = 13) :
    Calls Try.prog 12 #[.pointer (some ⟨gc, 0, none⟩), .pointer (some ⟨yc, 0, none⟩), .pointer (some ⟨gp, 0, none⟩), .pointer (some ⟨q, 0, none⟩), .agg x.cs.toArray] w fun e w' => e = .returned (.bool true) ∧ Left gc g gp yc y q U V t w w' := by
  have am := fun w => among_any x.d 14 w (by omega) (by omega)
  rw [hm] at am
  go_enter Try.func12, Try.ntmps12
  go_wp2_with (first
    | (refine at_boxA (by rfl) _ (by rfl) x (by rfl) ?_; intro gb w1 a1 l1 r1 b1
       have x0 := A3.c0 r1
       have x1 := A3.c1 r1)
    | (go_at_call 23; refine (am _).mono ?_; rintro e u ⟨rfl, rfl⟩; clear am)
    | fail)
  have H1 := H.later b1
  have hgb := H.far gb a1
  have hS : ∀ u, Stp (Uv U V) w1 u → (u.cell? ⟨gb, 1, none⟩ = some (.int .i64 x.t) ∧ u.rangeAt gb 2 x.b.cs) := fun u hu => ⟨hu.cell x1 hgb, hu.range (A3.rng r1) hgb⟩
  have HD := H1.later (Below.refl _ w1).drew
  have hP := force_ca HD.a ok ht x.t hx.t x.b
  refine wp_region_held_drew (S := fun u => u.cell? ⟨gb, 1, none⟩ = some (.int .i64 x.t) ∧ u.rangeAt gb 2 x.b.cs) (by kernel_rfl) (hS _ (Stp.refl _ w1).drew) (fun hHeld => ?_)
  refine wpAnyH_take (i := 0) (oi := { dst := some 37, op := Op.move (Operand.tmp 0), type := 34, pos := _, after := #[], guard := none }) (v := .pointer (some ⟨gc, 0, none⟩)) rfl (by kernel_rfl) (by kernel_rfl) (by kernel_rfl) (fun _ _ _ h => h) (Or.inl ⟨by rfl, ?_⟩) hHeld ?_
  · intro u hu
    go_simp
  try simp only [Act.put, List.setIfInBounds_toArray, List.set_cons_zero, List.set_cons_succ]
  refine wpAnyH_take (i := 1) (oi := { dst := some 38, op := Op.fieldAddr 44 (Operand.tmp 9) 1, type := 0, pos := _, after := #[], guard := none }) (v := .pointer (some ⟨gb, 1, none⟩)) rfl (by kernel_rfl) (by kernel_rfl) (by kernel_rfl) (fun _ _ _ h => h) (Or.inl ⟨by rfl, ?_⟩) hHeld ?_
  · intro u hu
    go_simp
  try simp only [Act.put, List.setIfInBounds_toArray, List.set_cons_zero, List.set_cons_succ]
  refine wpAnyH_take (i := 2) (oi := { dst := some 39, op := Op.load 3 (Operand.tmp 38), type := 3, pos := _, after := #[{ on := 1, ground := Ground.data }], guard := none }) (v := .int .i64 x.t) rfl (by kernel_rfl) (by kernel_rfl) (by kernel_rfl) (fun _ _ _ h => h) (Or.inl ⟨by rfl, ?_⟩) hHeld ?_
  · intro u hu
    have z1 := hu.1; go_simp
  try simp only [Act.put, List.setIfInBounds_toArray, List.set_cons_zero, List.set_cons_succ]
  refine wpAnyH_take (i := 3) (oi := { dst := some 40, op := Op.fieldAddr 44 (Operand.tmp 9) 2, type := 0, pos := _, after := #[], guard := none }) (v := .pointer (some ⟨gb, 2, none⟩)) rfl (by kernel_rfl) (by kernel_rfl) (by kernel_rfl) (fun _ _ _ h => h) (Or.inl ⟨by rfl, ?_⟩) hHeld ?_
  · intro u hu
    go_simp
  try simp only [Act.put, List.setIfInBounds_toArray, List.set_cons_zero, List.set_cons_succ]
  refine wpAnyH_take (i := 4) (oi := { dst := some 41, op := Op.load 42 (Operand.tmp 40), type := 42, pos := _, after := #[{ on := 3, ground := Ground.data }], guard := none }) (v := .agg x.b.cs.toArray) rfl (by kernel_rfl) (by kernel_rfl) (by kernel_rfl) (fun _ _ _ h => h)
    (yields_B (by rfl) _ (by rfl) gb 2 (by rfl) x.b (fun u hu => hu.2)) hHeld ?_
  try simp only [Act.put, List.setIfInBounds_toArray, List.set_cons_zero, List.set_cons_succ]
  refine wpAnyH_take (i := 6) (oi := { dst := some 43, op := Op.move (Operand.tmp 1), type := 37, pos := _, after := #[], guard := none }) (v := .pointer (some ⟨yc, 0, none⟩)) rfl (by kernel_rfl) (by kernel_rfl) (by kernel_rfl) (fun _ _ _ h => h) (Or.inl ⟨by rfl, ?_⟩) hHeld ?_
  · intro u hu
    go_simp
  try simp only [Act.put, List.setIfInBounds_toArray, List.set_cons_zero, List.set_cons_succ]
  refine wpAnyH_take (i := 7) (oi := { dst := some 44, op := Op.fieldAddr 44 (Operand.tmp 9) 1, type := 0, pos := _, after := #[], guard := none }) (v := .pointer (some ⟨gb, 1, none⟩)) rfl (by kernel_rfl) (by kernel_rfl) (by kernel_rfl) (fun _ _ _ h => h) (Or.inl ⟨by rfl, ?_⟩) hHeld ?_
  · intro u hu
    go_simp
  try simp only [Act.put, List.setIfInBounds_toArray, List.set_cons_zero, List.set_cons_succ]
  refine wpAnyH_take (i := 8) (oi := { dst := some 45, op := Op.load 3 (Operand.tmp 44), type := 3, pos := _, after := #[{ on := 7, ground := Ground.data }], guard := none }) (v := .int .i64 x.t) rfl (by kernel_rfl) (by kernel_rfl) (by kernel_rfl) (fun _ _ _ h => h) (Or.inl ⟨by rfl, ?_⟩) hHeld ?_
  · intro u hu
    have z1 := hu.1; go_simp
  try simp only [Act.put, List.setIfInBounds_toArray, List.set_cons_zero, List.set_cons_succ]
  refine wpAnyH_take (i := 9) (oi := { dst := some 46, op := Op.fieldAddr 44 (Operand.tmp 9) 2, type := 0, pos := _, after := #[], guard := none }) (v := .pointer (some ⟨gb, 2, none⟩)) rfl (by kernel_rfl) (by kernel_rfl) (by kernel_rfl) (fun _ _ _ h => h) (Or.inl ⟨by rfl, ?_⟩) hHeld ?_
  · intro u hu
    go_simp
  try simp only [Act.put, List.setIfInBounds_toArray, List.set_cons_zero, List.set_cons_succ]
  refine wpAnyH_take (i := 10) (oi := { dst := some 47, op := Op.load 42 (Operand.tmp 46), type := 42, pos := _, after := #[{ on := 9, ground := Ground.data }], guard := none }) (v := .agg x.b.cs.toArray) rfl (by kernel_rfl) (by kernel_rfl) (by kernel_rfl) (fun _ _ _ h => h)
    (yields_B (by rfl) _ (by rfl) gb 2 (by rfl) x.b (fun u hu => hu.2)) hHeld ?_
  try simp only [Act.put, List.setIfInBounds_toArray, List.set_cons_zero, List.set_cons_succ]
  refine wpAnyH_ready (rs := [5]) (by kernel_rfl) (by simp) ?_
  refine (AllReadyH.cons (o := { dst := some 42, op := Op.call { callee := Callee.value (Operand.func 25), args := #[Operand.tmp 37, Operand.tmp 39, Operand.tmp 41], argTypes := #[34, 3, 42] }, type := 28, pos := _, after := #[{ on := 0, ground := Ground.data }, { on := 2, ground := Ground.data }, { on := 4, ground := Ground.data }], guard := none }) rfl (fun K hK => ?_) AllReadyH.nil)
  go_simp
  refine hP.mono ?_
  rintro e w2 ⟨rfl, U2, c2, s2, g2⟩
  try go_wp2_with fail
  have hk2 : Stp (Uv U V) w1 w2 := ((Stp.refl (Uv U V) w1).drew).trans (s2.mono (fun x e => .inl (.inl e)))
  have hRr := (fun h => rforce_ra h ok ht x.t hx.t x.b) (HD.mid s2)
  refine hK.out _ _ (hS _ hk2) (fun hHeld => ?_)
  clear hK K
  try simp only [Act.put, List.setIfInBounds_toArray, List.set_cons_zero, List.set_cons_succ]
  refine wpAnyH_ready (rs := [11]) (by kernel_rfl) (by simp) ?_
  refine (AllReadyH.cons (o := { dst := some 48, op := Op.call { callee := Callee.value (Operand.func 33), args := #[Operand.tmp 43, Operand.tmp 45, Operand.tmp 47], argTypes := #[37, 3, 42] }, type := 28, pos := _, after := #[{ on := 6, ground := Ground.data }, { on := 8, ground := Ground.data }, { on := 10, ground := Ground.data }, { on := 5, ground := Ground.chain }], guard := none }) rfl (fun K hK => ?_) AllReadyH.nil)
  go_simp
  refine hRr.mono ?_
  rintro e w3 ⟨rfl, hr3⟩
  try go_wp2_with fail
  have hk3 : Stp (Uv U V) w1 w3 := by obtain ⟨V3, b3, s3, g3⟩ := hr3; exact hk2.next s3 (fun x e => .inl (.inr e))
  refine hK.out _ _ (hS _ hk3) (fun hHeld => ?_)
  clear hK K
  try simp only [Act.put, List.setIfInBounds_toArray, List.set_cons_zero, List.set_cons_succ]
  refine wpAnyH_take (i := 12) (oi := { dst := some 49, op := Op.binOp BinOp.eql 28 (Operand.tmp 42) (Operand.tmp 48) 28, type := 4, pos := _, after := #[{ on := 5, ground := Ground.data }, { on := 11, ground := Ground.data }], guard := none }) (v := .bool true) rfl (by kernel_rfl) (by kernel_rfl) (by kernel_rfl) (fun _ _ _ h => h) (Or.inl ⟨by rfl, ?_⟩) hHeld ?_
  · intro u hu
    go_simp
  try simp only [Act.put, List.setIfInBounds_toArray, List.set_cons_zero, List.set_cons_succ]
  refine wpAnyH_take (i := 13) (oi := { dst := some 10, op := Op.assign (Operand.tmp 49), type := 4, pos := _, after := #[{ on := 12, ground := Ground.data }, { on := 11, ground := Ground.chain }, { on := 0, ground := Ground.phase }, { on := 1, ground := Ground.phase }, { on := 2, ground := Ground.phase }, { on := 3, ground := Ground.phase }, { on := 4, ground := Ground.phase }, { on := 5, ground := Ground.phase }, { on := 6, ground := Ground.phase }, { on := 7, ground := Ground.phase }, { on := 8, ground := Ground.phase }, { on := 9, ground := Ground.phase }, { on := 10, ground := Ground.phase }, { on := 11, ground := Ground.phase }, { on := 12, ground := Ground.phase }], guard := none }) (v := .bool true) rfl (by kernel_rfl) (by kernel_rfl) (by kernel_rfl) (fun _ _ _ h => h) (Or.inl ⟨by rfl, ?_⟩) hHeld ?_
  · intro u hu
    go_simp
  try simp only [Act.put, List.setIfInBounds_toArray, List.set_cons_zero, List.set_cons_succ]
  refine wpAnyH_done (by kernel_rfl) ?_ _
  clear hHeld hS
  go_wp2_with fail
  go_returns
  obtain ⟨U', V', h1, h2, h3⟩ := (H1.later (Below.refl _ w1).drew).pair c2 s2 g2 hr3
  exact ⟨by simp, Left.pre b1 ⟨_, U', V', h1, (ok.force _ _).mono (by omega), ((Stp.refl _ w1).drew).trans h2, h3⟩⟩
set_option maxRecDepth 100000 in
set_option maxHeartbeats 2000000 in
theorem do_pin {w : World} {gc g gp yc y q : Nat} {Z : CZ} {U V : Nat → Prop} {t : Nat} (H : Bt w gc g gp yc y q Z U V) (ok : Z.ok t) (ht : t ≤ 9000) (x : A3) (hx : x.ok) (hm : among x.d 14 = 6) :
    Calls Try.prog 12 #[.pointer (some ⟨gc, 0, none⟩), .pointer (some ⟨yc, 0, none⟩), .pointer (some ⟨gp, 0, none⟩), .pointer (some ⟨q, 0, none⟩), .agg x.cs.toArray] w fun e w' => e = .returned (.bool true) ∧ Left gc g gp yc y q U V t w w' := by
  have am := fun w => among_any x.d 14 w (by omega) (by omega)
  rw [hm] at am
  go_enter Try.func12, Try.ntmps12
  go_wp2_with (first
    | (refine at_boxA (by rfl) _ (by rfl) x (by rfl) ?_; intro gb w1 a1 l1 r1 b1
       have x0 := A3.c0 r1
       have x1 := A3.c1 r1)
    | (go_at_call 23; refine (am _).mono ?_; rintro e u ⟨rfl, rfl⟩; clear am)
    | fail)
  have H1 := H.later b1
  have hgb := H.far gb a1
  have hS : ∀ u, Stp (Uv U V) w1 u → (u.cell? ⟨gb, 1, none⟩ = some (.int .i64 x.t) ∧ u.rangeAt gb 2 x.b.cs) := fun u hu => ⟨hu.cell x1 hgb, hu.range (A3.rng r1) hgb⟩
  have HD := H1.later (Below.refl _ w1).drew
  have hP := pin_ca HD.a x.t hx.t
  refine wp_region_held_drew (S := fun u => u.cell? ⟨gb, 1, none⟩ = some (.int .i64 x.t) ∧ u.rangeAt gb 2 x.b.cs) (by kernel_rfl) (hS _ (Stp.refl _ w1).drew) (fun hHeld => ?_)
  refine wpAnyH_take (i := 0) (oi := { dst := some 52, op := Op.move (Operand.tmp 0), type := 34, pos := _, after := #[], guard := none }) (v := .pointer (some ⟨gc, 0, none⟩)) rfl (by kernel_rfl) (by kernel_rfl) (by kernel_rfl) (fun _ _ _ h => h) (Or.inl ⟨by rfl, ?_⟩) hHeld ?_
  · intro u hu
    go_simp
  try simp only [Act.put, List.setIfInBounds_toArray, List.set_cons_zero, List.set_cons_succ]
  refine wpAnyH_take (i := 1) (oi := { dst := some 53, op := Op.fieldAddr 44 (Operand.tmp 9) 1, type := 0, pos := _, after := #[], guard := none }) (v := .pointer (some ⟨gb, 1, none⟩)) rfl (by kernel_rfl) (by kernel_rfl) (by kernel_rfl) (fun _ _ _ h => h) (Or.inl ⟨by rfl, ?_⟩) hHeld ?_
  · intro u hu
    go_simp
  try simp only [Act.put, List.setIfInBounds_toArray, List.set_cons_zero, List.set_cons_succ]
  refine wpAnyH_take (i := 2) (oi := { dst := some 54, op := Op.load 3 (Operand.tmp 53), type := 3, pos := _, after := #[{ on := 1, ground := Ground.data }], guard := none }) (v := .int .i64 x.t) rfl (by kernel_rfl) (by kernel_rfl) (by kernel_rfl) (fun _ _ _ h => h) (Or.inl ⟨by rfl, ?_⟩) hHeld ?_
  · intro u hu
    have z1 := hu.1; go_simp
  try simp only [Act.put, List.setIfInBounds_toArray, List.set_cons_zero, List.set_cons_succ]
  refine wpAnyH_take (i := 4) (oi := { dst := some 56, op := Op.move (Operand.tmp 1), type := 37, pos := _, after := #[], guard := none }) (v := .pointer (some ⟨yc, 0, none⟩)) rfl (by kernel_rfl) (by kernel_rfl) (by kernel_rfl) (fun _ _ _ h => h) (Or.inl ⟨by rfl, ?_⟩) hHeld ?_
  · intro u hu
    go_simp
  try simp only [Act.put, List.setIfInBounds_toArray, List.set_cons_zero, List.set_cons_succ]
  refine wpAnyH_take (i := 5) (oi := { dst := some 57, op := Op.fieldAddr 44 (Operand.tmp 9) 1, type := 0, pos := _, after := #[], guard := none }) (v := .pointer (some ⟨gb, 1, none⟩)) rfl (by kernel_rfl) (by kernel_rfl) (by kernel_rfl) (fun _ _ _ h => h) (Or.inl ⟨by rfl, ?_⟩) hHeld ?_
  · intro u hu
    go_simp
  try simp only [Act.put, List.setIfInBounds_toArray, List.set_cons_zero, List.set_cons_succ]
  refine wpAnyH_take (i := 6) (oi := { dst := some 58, op := Op.load 3 (Operand.tmp 57), type := 3, pos := _, after := #[{ on := 5, ground := Ground.data }], guard := none }) (v := .int .i64 x.t) rfl (by kernel_rfl) (by kernel_rfl) (by kernel_rfl) (fun _ _ _ h => h) (Or.inl ⟨by rfl, ?_⟩) hHeld ?_
  · intro u hu
    have z1 := hu.1; go_simp
  try simp only [Act.put, List.setIfInBounds_toArray, List.set_cons_zero, List.set_cons_succ]
  refine wpAnyH_ready (rs := [3]) (by kernel_rfl) (by simp) ?_
  refine (AllReadyH.cons (o := { dst := some 55, op := Op.call { callee := Callee.value (Operand.func 30), args := #[Operand.tmp 52, Operand.tmp 54], argTypes := #[34, 3] }, type := 28, pos := _, after := #[{ on := 0, ground := Ground.data }, { on := 2, ground := Ground.data }], guard := none }) rfl (fun K hK => ?_) AllReadyH.nil)
  go_simp
  refine hP.mono ?_
  rintro e w2 ⟨rfl, U2, c2, s2, g2⟩
  try go_wp2_with fail
  have hk2 : Stp (Uv U V) w1 w2 := ((Stp.refl (Uv U V) w1).drew).trans (s2.mono (fun x e => .inl (.inl e)))
  have hRr := (fun h => rpin_ra h ok x.t) (HD.mid s2)
  refine hK.out _ _ (hS _ hk2) (fun hHeld => ?_)
  clear hK K
  try simp only [Act.put, List.setIfInBounds_toArray, List.set_cons_zero, List.set_cons_succ]
  refine wpAnyH_ready (rs := [7]) (by kernel_rfl) (by simp) ?_
  refine (AllReadyH.cons (o := { dst := some 59, op := Op.call { callee := Callee.value (Operand.func 34), args := #[Operand.tmp 56, Operand.tmp 58], argTypes := #[37, 3] }, type := 28, pos := _, after := #[{ on := 4, ground := Ground.data }, { on := 6, ground := Ground.data }, { on := 3, ground := Ground.chain }], guard := none }) rfl (fun K hK => ?_) AllReadyH.nil)
  go_simp
  refine hRr.mono ?_
  rintro e w3 ⟨rfl, hr3⟩
  try go_wp2_with fail
  have hk3 : Stp (Uv U V) w1 w3 := by obtain ⟨V3, b3, s3, g3⟩ := hr3; exact hk2.next s3 (fun x e => .inl (.inr e))
  refine hK.out _ _ (hS _ hk3) (fun hHeld => ?_)
  clear hK K
  try simp only [Act.put, List.setIfInBounds_toArray, List.set_cons_zero, List.set_cons_succ]
  refine wpAnyH_take (i := 8) (oi := { dst := some 60, op := Op.binOp BinOp.eql 28 (Operand.tmp 55) (Operand.tmp 59) 28, type := 4, pos := _, after := #[{ on := 3, ground := Ground.data }, { on := 7, ground := Ground.data }], guard := none }) (v := .bool true) rfl (by kernel_rfl) (by kernel_rfl) (by kernel_rfl) (fun _ _ _ h => h) (Or.inl ⟨by rfl, ?_⟩) hHeld ?_
  · intro u hu
    go_simp
  try simp only [Act.put, List.setIfInBounds_toArray, List.set_cons_zero, List.set_cons_succ]
  refine wpAnyH_take (i := 9) (oi := { dst := some 10, op := Op.assign (Operand.tmp 60), type := 4, pos := _, after := #[{ on := 8, ground := Ground.data }, { on := 7, ground := Ground.chain }, { on := 0, ground := Ground.phase }, { on := 1, ground := Ground.phase }, { on := 2, ground := Ground.phase }, { on := 3, ground := Ground.phase }, { on := 4, ground := Ground.phase }, { on := 5, ground := Ground.phase }, { on := 6, ground := Ground.phase }, { on := 7, ground := Ground.phase }, { on := 8, ground := Ground.phase }], guard := none }) (v := .bool true) rfl (by kernel_rfl) (by kernel_rfl) (by kernel_rfl) (fun _ _ _ h => h) (Or.inl ⟨by rfl, ?_⟩) hHeld ?_
  · intro u hu
    go_simp
  try simp only [Act.put, List.setIfInBounds_toArray, List.set_cons_zero, List.set_cons_succ]
  refine wpAnyH_done (by kernel_rfl) ?_ _
  clear hHeld hS
  go_wp2_with fail
  go_returns
  obtain ⟨U', V', h1, h2, h3⟩ := (H1.later (Below.refl _ w1).drew).pair c2 s2 g2 hr3
  exact ⟨by simp, Left.pre b1 ⟨_, U', V', h1, (ok.pin' (by omega) _).mono (by omega), ((Stp.refl _ w1).drew).trans h2, h3⟩⟩
set_option maxRecDepth 100000 in
set_option maxHeartbeats 2000000 in
theorem do_unpin {w : World} {gc g gp yc y q : Nat} {Z : CZ} {U V : Nat → Prop} {t : Nat} (H : Bt w gc g gp yc y q Z U V) (ok : Z.ok t) (ht : t ≤ 9000) (x : A3) (hx : x.ok) (hm : among x.d 14 = 7) :
    Calls Try.prog 12 #[.pointer (some ⟨gc, 0, none⟩), .pointer (some ⟨yc, 0, none⟩), .pointer (some ⟨gp, 0, none⟩), .pointer (some ⟨q, 0, none⟩), .agg x.cs.toArray] w fun e w' => e = .returned (.bool true) ∧ Left gc g gp yc y q U V t w w' := by
  have am := fun w => among_any x.d 14 w (by omega) (by omega)
  rw [hm] at am
  go_enter Try.func12, Try.ntmps12
  go_wp2_with (first
    | (refine at_boxA (by rfl) _ (by rfl) x (by rfl) ?_; intro gb w1 a1 l1 r1 b1
       have x0 := A3.c0 r1
       have x1 := A3.c1 r1)
    | (go_at_call 23; refine (am _).mono ?_; rintro e u ⟨rfl, rfl⟩; clear am)
    | fail)
  have H1 := H.later b1
  have hgb := H.far gb a1
  have hS : ∀ u, Stp (Uv U V) w1 u → (u.cell? ⟨gb, 1, none⟩ = some (.int .i64 x.t) ∧ u.rangeAt gb 2 x.b.cs) := fun u hu => ⟨hu.cell x1 hgb, hu.range (A3.rng r1) hgb⟩
  have HD := H1.later (Below.refl _ w1).drew
  have hP := unpin_ca HD.a x.t hx.t
  refine wp_region_held_drew (S := fun u => u.cell? ⟨gb, 1, none⟩ = some (.int .i64 x.t) ∧ u.rangeAt gb 2 x.b.cs) (by kernel_rfl) (hS _ (Stp.refl _ w1).drew) (fun hHeld => ?_)
  refine wpAnyH_take (i := 0) (oi := { dst := some 63, op := Op.move (Operand.tmp 0), type := 34, pos := _, after := #[], guard := none }) (v := .pointer (some ⟨gc, 0, none⟩)) rfl (by kernel_rfl) (by kernel_rfl) (by kernel_rfl) (fun _ _ _ h => h) (Or.inl ⟨by rfl, ?_⟩) hHeld ?_
  · intro u hu
    go_simp
  try simp only [Act.put, List.setIfInBounds_toArray, List.set_cons_zero, List.set_cons_succ]
  refine wpAnyH_take (i := 1) (oi := { dst := some 64, op := Op.fieldAddr 44 (Operand.tmp 9) 1, type := 0, pos := _, after := #[], guard := none }) (v := .pointer (some ⟨gb, 1, none⟩)) rfl (by kernel_rfl) (by kernel_rfl) (by kernel_rfl) (fun _ _ _ h => h) (Or.inl ⟨by rfl, ?_⟩) hHeld ?_
  · intro u hu
    go_simp
  try simp only [Act.put, List.setIfInBounds_toArray, List.set_cons_zero, List.set_cons_succ]
  refine wpAnyH_take (i := 2) (oi := { dst := some 65, op := Op.load 3 (Operand.tmp 64), type := 3, pos := _, after := #[{ on := 1, ground := Ground.data }], guard := none }) (v := .int .i64 x.t) rfl (by kernel_rfl) (by kernel_rfl) (by kernel_rfl) (fun _ _ _ h => h) (Or.inl ⟨by rfl, ?_⟩) hHeld ?_
  · intro u hu
    have z1 := hu.1; go_simp
  try simp only [Act.put, List.setIfInBounds_toArray, List.set_cons_zero, List.set_cons_succ]
  refine wpAnyH_take (i := 4) (oi := { dst := some 67, op := Op.move (Operand.tmp 1), type := 37, pos := _, after := #[], guard := none }) (v := .pointer (some ⟨yc, 0, none⟩)) rfl (by kernel_rfl) (by kernel_rfl) (by kernel_rfl) (fun _ _ _ h => h) (Or.inl ⟨by rfl, ?_⟩) hHeld ?_
  · intro u hu
    go_simp
  try simp only [Act.put, List.setIfInBounds_toArray, List.set_cons_zero, List.set_cons_succ]
  refine wpAnyH_take (i := 5) (oi := { dst := some 68, op := Op.fieldAddr 44 (Operand.tmp 9) 1, type := 0, pos := _, after := #[], guard := none }) (v := .pointer (some ⟨gb, 1, none⟩)) rfl (by kernel_rfl) (by kernel_rfl) (by kernel_rfl) (fun _ _ _ h => h) (Or.inl ⟨by rfl, ?_⟩) hHeld ?_
  · intro u hu
    go_simp
  try simp only [Act.put, List.setIfInBounds_toArray, List.set_cons_zero, List.set_cons_succ]
  refine wpAnyH_take (i := 6) (oi := { dst := some 69, op := Op.load 3 (Operand.tmp 68), type := 3, pos := _, after := #[{ on := 5, ground := Ground.data }], guard := none }) (v := .int .i64 x.t) rfl (by kernel_rfl) (by kernel_rfl) (by kernel_rfl) (fun _ _ _ h => h) (Or.inl ⟨by rfl, ?_⟩) hHeld ?_
  · intro u hu
    have z1 := hu.1; go_simp
  try simp only [Act.put, List.setIfInBounds_toArray, List.set_cons_zero, List.set_cons_succ]
  refine wpAnyH_ready (rs := [3]) (by kernel_rfl) (by simp) ?_
  refine (AllReadyH.cons (o := { dst := some 66, op := Op.call { callee := Callee.value (Operand.func 31), args := #[Operand.tmp 63, Operand.tmp 65], argTypes := #[34, 3] }, type := 28, pos := _, after := #[{ on := 0, ground := Ground.data }, { on := 2, ground := Ground.data }], guard := none }) rfl (fun K hK => ?_) AllReadyH.nil)
  go_simp
  refine hP.mono ?_
  rintro e w2 ⟨rfl, U2, c2, s2, g2⟩
  try go_wp2_with fail
  have hk2 : Stp (Uv U V) w1 w2 := ((Stp.refl (Uv U V) w1).drew).trans (s2.mono (fun x e => .inl (.inl e)))
  have hRr := (fun h => runpin_ra h ok x.t) (HD.mid s2)
  refine hK.out _ _ (hS _ hk2) (fun hHeld => ?_)
  clear hK K
  try simp only [Act.put, List.setIfInBounds_toArray, List.set_cons_zero, List.set_cons_succ]
  refine wpAnyH_ready (rs := [7]) (by kernel_rfl) (by simp) ?_
  refine (AllReadyH.cons (o := { dst := some 70, op := Op.call { callee := Callee.value (Operand.func 35), args := #[Operand.tmp 67, Operand.tmp 69], argTypes := #[37, 3] }, type := 28, pos := _, after := #[{ on := 4, ground := Ground.data }, { on := 6, ground := Ground.data }, { on := 3, ground := Ground.chain }], guard := none }) rfl (fun K hK => ?_) AllReadyH.nil)
  go_simp
  refine hRr.mono ?_
  rintro e w3 ⟨rfl, hr3⟩
  try go_wp2_with fail
  have hk3 : Stp (Uv U V) w1 w3 := by obtain ⟨V3, b3, s3, g3⟩ := hr3; exact hk2.next s3 (fun x e => .inl (.inr e))
  refine hK.out _ _ (hS _ hk3) (fun hHeld => ?_)
  clear hK K
  try simp only [Act.put, List.setIfInBounds_toArray, List.set_cons_zero, List.set_cons_succ]
  refine wpAnyH_take (i := 8) (oi := { dst := some 71, op := Op.binOp BinOp.eql 28 (Operand.tmp 66) (Operand.tmp 70) 28, type := 4, pos := _, after := #[{ on := 3, ground := Ground.data }, { on := 7, ground := Ground.data }], guard := none }) (v := .bool true) rfl (by kernel_rfl) (by kernel_rfl) (by kernel_rfl) (fun _ _ _ h => h) (Or.inl ⟨by rfl, ?_⟩) hHeld ?_
  · intro u hu
    go_simp
  try simp only [Act.put, List.setIfInBounds_toArray, List.set_cons_zero, List.set_cons_succ]
  refine wpAnyH_take (i := 9) (oi := { dst := some 10, op := Op.assign (Operand.tmp 71), type := 4, pos := _, after := #[{ on := 8, ground := Ground.data }, { on := 7, ground := Ground.chain }, { on := 0, ground := Ground.phase }, { on := 1, ground := Ground.phase }, { on := 2, ground := Ground.phase }, { on := 3, ground := Ground.phase }, { on := 4, ground := Ground.phase }, { on := 5, ground := Ground.phase }, { on := 6, ground := Ground.phase }, { on := 7, ground := Ground.phase }, { on := 8, ground := Ground.phase }], guard := none }) (v := .bool true) rfl (by kernel_rfl) (by kernel_rfl) (by kernel_rfl) (fun _ _ _ h => h) (Or.inl ⟨by rfl, ?_⟩) hHeld ?_
  · intro u hu
    go_simp
  try simp only [Act.put, List.setIfInBounds_toArray, List.set_cons_zero, List.set_cons_succ]
  refine wpAnyH_done (by kernel_rfl) ?_ _
  clear hHeld hS
  go_wp2_with fail
  go_returns
  obtain ⟨U', V', h1, h2, h3⟩ := (H1.later (Below.refl _ w1).drew).pair c2 s2 g2 hr3
  exact ⟨by simp, Left.pre b1 ⟨_, U', V', h1, (ok.unpin (by omega) _).mono (by omega), ((Stp.refl _ w1).drew).trans h2, h3⟩⟩
set_option maxRecDepth 100000 in
set_option maxHeartbeats 2000000 in
theorem do_back {w : World} {gc g gp yc y q : Nat} {Z : CZ} {U V : Nat → Prop} {t : Nat} (H : Bt w gc g gp yc y q Z U V) (ok : Z.ok t) (ht : t ≤ 9000) (x : A3) (hx : x.ok) (hm : among x.d 14 = 8) :
    Calls Try.prog 12 #[.pointer (some ⟨gc, 0, none⟩), .pointer (some ⟨yc, 0, none⟩), .pointer (some ⟨gp, 0, none⟩), .pointer (some ⟨q, 0, none⟩), .agg x.cs.toArray] w fun e w' => e = .returned (.bool true) ∧ Left gc g gp yc y q U V t w w' := by
  have am := fun w => among_any x.d 14 w (by omega) (by omega)
  rw [hm] at am
  go_enter Try.func12, Try.ntmps12
  go_wp2_with (first
    | (refine at_boxA (by rfl) _ (by rfl) x (by rfl) ?_; intro gb w1 a1 l1 r1 b1
       have x0 := A3.c0 r1
       have x1 := A3.c1 r1)
    | (go_at_call 23; refine (am _).mono ?_; rintro e u ⟨rfl, rfl⟩; clear am)
    | fail)
  have H1 := H.later b1
  have hgb := H.far gb a1
  have hS : ∀ u, Stp (Uv U V) w1 u → (u.cell? ⟨gb, 1, none⟩ = some (.int .i64 x.t) ∧ u.rangeAt gb 2 x.b.cs) := fun u hu => ⟨hu.cell x1 hgb, hu.range (A3.rng r1) hgb⟩
  have HD := H1.later (Below.refl _ w1).drew
  have hP := back_ca HD.a ok ht x.t hx.t
  refine wp_region_held_drew (S := fun u => u.cell? ⟨gb, 1, none⟩ = some (.int .i64 x.t) ∧ u.rangeAt gb 2 x.b.cs) (by kernel_rfl) (hS _ (Stp.refl _ w1).drew) (fun hHeld => ?_)
  refine wpAnyH_take (i := 0) (oi := { dst := some 74, op := Op.move (Operand.tmp 0), type := 34, pos := _, after := #[], guard := none }) (v := .pointer (some ⟨gc, 0, none⟩)) rfl (by kernel_rfl) (by kernel_rfl) (by kernel_rfl) (fun _ _ _ h => h) (Or.inl ⟨by rfl, ?_⟩) hHeld ?_
  · intro u hu
    go_simp
  try simp only [Act.put, List.setIfInBounds_toArray, List.set_cons_zero, List.set_cons_succ]
  refine wpAnyH_take (i := 1) (oi := { dst := some 75, op := Op.fieldAddr 44 (Operand.tmp 9) 1, type := 0, pos := _, after := #[], guard := none }) (v := .pointer (some ⟨gb, 1, none⟩)) rfl (by kernel_rfl) (by kernel_rfl) (by kernel_rfl) (fun _ _ _ h => h) (Or.inl ⟨by rfl, ?_⟩) hHeld ?_
  · intro u hu
    go_simp
  try simp only [Act.put, List.setIfInBounds_toArray, List.set_cons_zero, List.set_cons_succ]
  refine wpAnyH_take (i := 2) (oi := { dst := some 76, op := Op.load 3 (Operand.tmp 75), type := 3, pos := _, after := #[{ on := 1, ground := Ground.data }], guard := none }) (v := .int .i64 x.t) rfl (by kernel_rfl) (by kernel_rfl) (by kernel_rfl) (fun _ _ _ h => h) (Or.inl ⟨by rfl, ?_⟩) hHeld ?_
  · intro u hu
    have z1 := hu.1; go_simp
  try simp only [Act.put, List.setIfInBounds_toArray, List.set_cons_zero, List.set_cons_succ]
  refine wpAnyH_take (i := 4) (oi := { dst := some 78, op := Op.move (Operand.tmp 1), type := 37, pos := _, after := #[], guard := none }) (v := .pointer (some ⟨yc, 0, none⟩)) rfl (by kernel_rfl) (by kernel_rfl) (by kernel_rfl) (fun _ _ _ h => h) (Or.inl ⟨by rfl, ?_⟩) hHeld ?_
  · intro u hu
    go_simp
  try simp only [Act.put, List.setIfInBounds_toArray, List.set_cons_zero, List.set_cons_succ]
  refine wpAnyH_take (i := 5) (oi := { dst := some 79, op := Op.fieldAddr 44 (Operand.tmp 9) 1, type := 0, pos := _, after := #[], guard := none }) (v := .pointer (some ⟨gb, 1, none⟩)) rfl (by kernel_rfl) (by kernel_rfl) (by kernel_rfl) (fun _ _ _ h => h) (Or.inl ⟨by rfl, ?_⟩) hHeld ?_
  · intro u hu
    go_simp
  try simp only [Act.put, List.setIfInBounds_toArray, List.set_cons_zero, List.set_cons_succ]
  refine wpAnyH_take (i := 6) (oi := { dst := some 80, op := Op.load 3 (Operand.tmp 79), type := 3, pos := _, after := #[{ on := 5, ground := Ground.data }], guard := none }) (v := .int .i64 x.t) rfl (by kernel_rfl) (by kernel_rfl) (by kernel_rfl) (fun _ _ _ h => h) (Or.inl ⟨by rfl, ?_⟩) hHeld ?_
  · intro u hu
    have z1 := hu.1; go_simp
  try simp only [Act.put, List.setIfInBounds_toArray, List.set_cons_zero, List.set_cons_succ]
  refine wpAnyH_ready (rs := [3]) (by kernel_rfl) (by simp) ?_
  refine (AllReadyH.cons (o := { dst := some 77, op := Op.call { callee := Callee.value (Operand.func 26), args := #[Operand.tmp 74, Operand.tmp 76], argTypes := #[34, 3] }, type := 28, pos := _, after := #[{ on := 0, ground := Ground.data }, { on := 2, ground := Ground.data }], guard := none }) rfl (fun K hK => ?_) AllReadyH.nil)
  go_simp
  refine hP.mono ?_
  rintro e w2 ⟨rfl, U2, c2, s2, g2⟩
  try go_wp2_with fail
  have hk2 : Stp (Uv U V) w1 w2 := ((Stp.refl (Uv U V) w1).drew).trans (s2.mono (fun x e => .inl (.inl e)))
  have hRr := (fun h => rback_ra h ok ht x.t) (HD.mid s2)
  refine hK.out _ _ (hS _ hk2) (fun hHeld => ?_)
  clear hK K
  try simp only [Act.put, List.setIfInBounds_toArray, List.set_cons_zero, List.set_cons_succ]
  refine wpAnyH_ready (rs := [7]) (by kernel_rfl) (by simp) ?_
  refine (AllReadyH.cons (o := { dst := some 81, op := Op.call { callee := Callee.value (Operand.func 36), args := #[Operand.tmp 78, Operand.tmp 80], argTypes := #[37, 3] }, type := 28, pos := _, after := #[{ on := 4, ground := Ground.data }, { on := 6, ground := Ground.data }, { on := 3, ground := Ground.chain }], guard := none }) rfl (fun K hK => ?_) AllReadyH.nil)
  go_simp
  refine hRr.mono ?_
  rintro e w3 ⟨rfl, hr3⟩
  try go_wp2_with fail
  have hk3 : Stp (Uv U V) w1 w3 := by obtain ⟨V3, b3, s3, g3⟩ := hr3; exact hk2.next s3 (fun x e => .inl (.inr e))
  refine hK.out _ _ (hS _ hk3) (fun hHeld => ?_)
  clear hK K
  try simp only [Act.put, List.setIfInBounds_toArray, List.set_cons_zero, List.set_cons_succ]
  refine wpAnyH_take (i := 8) (oi := { dst := some 82, op := Op.binOp BinOp.eql 28 (Operand.tmp 77) (Operand.tmp 81) 28, type := 4, pos := _, after := #[{ on := 3, ground := Ground.data }, { on := 7, ground := Ground.data }], guard := none }) (v := .bool true) rfl (by kernel_rfl) (by kernel_rfl) (by kernel_rfl) (fun _ _ _ h => h) (Or.inl ⟨by rfl, ?_⟩) hHeld ?_
  · intro u hu
    go_simp
  try simp only [Act.put, List.setIfInBounds_toArray, List.set_cons_zero, List.set_cons_succ]
  refine wpAnyH_take (i := 9) (oi := { dst := some 10, op := Op.assign (Operand.tmp 82), type := 4, pos := _, after := #[{ on := 8, ground := Ground.data }, { on := 7, ground := Ground.chain }, { on := 0, ground := Ground.phase }, { on := 1, ground := Ground.phase }, { on := 2, ground := Ground.phase }, { on := 3, ground := Ground.phase }, { on := 4, ground := Ground.phase }, { on := 5, ground := Ground.phase }, { on := 6, ground := Ground.phase }, { on := 7, ground := Ground.phase }, { on := 8, ground := Ground.phase }], guard := none }) (v := .bool true) rfl (by kernel_rfl) (by kernel_rfl) (by kernel_rfl) (fun _ _ _ h => h) (Or.inl ⟨by rfl, ?_⟩) hHeld ?_
  · intro u hu
    go_simp
  try simp only [Act.put, List.setIfInBounds_toArray, List.set_cons_zero, List.set_cons_succ]
  refine wpAnyH_done (by kernel_rfl) ?_ _
  clear hHeld hS
  go_wp2_with fail
  go_returns
  obtain ⟨U', V', h1, h2, h3⟩ := (H1.later (Below.refl _ w1).drew).pair c2 s2 g2 hr3
  exact ⟨by simp, Left.pre b1 ⟨_, U', V', h1, (ok.back _).mono (by omega), ((Stp.refl _ w1).drew).trans h2, h3⟩⟩
set_option maxRecDepth 100000 in
set_option maxHeartbeats 2000000 in
theorem do_limit {w : World} {gc g gp yc y q : Nat} {Z : CZ} {U V : Nat → Prop} {t : Nat} (H : Bt w gc g gp yc y q Z U V) (ok : Z.ok t) (ht : t ≤ 9000) (x : A3) (hx : x.ok) (hm : among x.d 14 = 11) :
    Calls Try.prog 12 #[.pointer (some ⟨gc, 0, none⟩), .pointer (some ⟨yc, 0, none⟩), .pointer (some ⟨gp, 0, none⟩), .pointer (some ⟨q, 0, none⟩), .agg x.cs.toArray] w fun e w' => e = .returned (.bool true) ∧ Left gc g gp yc y q U V t w w' := by
  have am := fun w => among_any x.d 14 w (by omega) (by omega)
  rw [hm] at am
  go_enter Try.func12, Try.ntmps12
  go_wp2_with (first
    | (refine at_boxA (by rfl) _ (by rfl) x (by rfl) ?_; intro gb w1 a1 l1 r1 b1
       have x0 := A3.c0 r1
       have x1 := A3.c1 r1)
    | (go_at_call 23; refine (am _).mono ?_; rintro e u ⟨rfl, rfl⟩; clear am)
    | fail)
  have H1 := H.later b1
  have hgb := H.far gb a1
  have hS : ∀ u, Stp (Uv U V) w1 u → (u.cell? ⟨gb, 1, none⟩ = some (.int .i64 x.t) ∧ u.rangeAt gb 2 x.b.cs) := fun u hu => ⟨hu.cell x1 hgb, hu.range (A3.rng r1) hgb⟩
  have HD := H1.later (Below.refl _ w1).drew
  have hP := limit_ca HD.a x.t
  refine wp_region_held_drew (S := fun u => u.cell? ⟨gb, 1, none⟩ = some (.int .i64 x.t) ∧ u.rangeAt gb 2 x.b.cs) (by kernel_rfl) (hS _ (Stp.refl _ w1).drew) (fun hHeld => ?_)
  refine wpAnyH_take (i := 0) (oi := { dst := some 99, op := Op.move (Operand.tmp 2), type := 23, pos := _, after := #[], guard := none }) (v := .pointer (some ⟨gp, 0, none⟩)) rfl (by kernel_rfl) (by kernel_rfl) (by kernel_rfl) (fun _ _ _ h => h) (Or.inl ⟨by rfl, ?_⟩) hHeld ?_
  · intro u hu
    go_simp
  try simp only [Act.put, List.setIfInBounds_toArray, List.set_cons_zero, List.set_cons_succ]
  refine wpAnyH_take (i := 1) (oi := { dst := some 100, op := Op.fieldAddr 44 (Operand.tmp 9) 1, type := 0, pos := _, after := #[], guard := none }) (v := .pointer (some ⟨gb, 1, none⟩)) rfl (by kernel_rfl) (by kernel_rfl) (by kernel_rfl) (fun _ _ _ h => h) (Or.inl ⟨by rfl, ?_⟩) hHeld ?_
  · intro u hu
    go_simp
  try simp only [Act.put, List.setIfInBounds_toArray, List.set_cons_zero, List.set_cons_succ]
  refine wpAnyH_take (i := 2) (oi := { dst := some 101, op := Op.load 3 (Operand.tmp 100), type := 3, pos := _, after := #[{ on := 1, ground := Ground.data }], guard := none }) (v := .int .i64 x.t) rfl (by kernel_rfl) (by kernel_rfl) (by kernel_rfl) (fun _ _ _ h => h) (Or.inl ⟨by rfl, ?_⟩) hHeld ?_
  · intro u hu
    have z1 := hu.1; go_simp
  try simp only [Act.put, List.setIfInBounds_toArray, List.set_cons_zero, List.set_cons_succ]
  refine wpAnyH_take (i := 4) (oi := { dst := some 103, op := Op.move (Operand.tmp 3), type := 25, pos := _, after := #[], guard := none }) (v := .pointer (some ⟨q, 0, none⟩)) rfl (by kernel_rfl) (by kernel_rfl) (by kernel_rfl) (fun _ _ _ h => h) (Or.inl ⟨by rfl, ?_⟩) hHeld ?_
  · intro u hu
    go_simp
  try simp only [Act.put, List.setIfInBounds_toArray, List.set_cons_zero, List.set_cons_succ]
  refine wpAnyH_take (i := 5) (oi := { dst := some 104, op := Op.fieldAddr 44 (Operand.tmp 9) 1, type := 0, pos := _, after := #[], guard := none }) (v := .pointer (some ⟨gb, 1, none⟩)) rfl (by kernel_rfl) (by kernel_rfl) (by kernel_rfl) (fun _ _ _ h => h) (Or.inl ⟨by rfl, ?_⟩) hHeld ?_
  · intro u hu
    go_simp
  try simp only [Act.put, List.setIfInBounds_toArray, List.set_cons_zero, List.set_cons_succ]
  refine wpAnyH_take (i := 6) (oi := { dst := some 105, op := Op.load 3 (Operand.tmp 104), type := 3, pos := _, after := #[{ on := 5, ground := Ground.data }], guard := none }) (v := .int .i64 x.t) rfl (by kernel_rfl) (by kernel_rfl) (by kernel_rfl) (fun _ _ _ h => h) (Or.inl ⟨by rfl, ?_⟩) hHeld ?_
  · intro u hu
    have z1 := hu.1; go_simp
  try simp only [Act.put, List.setIfInBounds_toArray, List.set_cons_zero, List.set_cons_succ]
  refine wpAnyH_ready (rs := [3]) (by kernel_rfl) (by simp) ?_
  refine (AllReadyH.cons (o := { dst := some 102, op := Op.call { callee := Callee.value (Operand.func 38), args := #[Operand.tmp 99, Operand.tmp 101], argTypes := #[23, 3] }, type := 28, pos := _, after := #[{ on := 0, ground := Ground.data }, { on := 2, ground := Ground.data }], guard := none }) rfl (fun K hK => ?_) AllReadyH.nil)
  go_simp
  refine hP.mono ?_
  rintro e w2 ⟨rfl, U2, c2, s2, g2⟩
  try go_wp2_with fail
  have hk2 : Stp (Uv U V) w1 w2 := ((Stp.refl (Uv U V) w1).drew).trans (s2.mono (fun x e => .inl (.inl e)))
  have hRr := (fun h => rlimit_ra h x.t) (HD.mid s2)
  refine hK.out _ _ (hS _ hk2) (fun hHeld => ?_)
  clear hK K
  try simp only [Act.put, List.setIfInBounds_toArray, List.set_cons_zero, List.set_cons_succ]
  refine wpAnyH_ready (rs := [7]) (by kernel_rfl) (by simp) ?_
  refine (AllReadyH.cons (o := { dst := some 106, op := Op.call { callee := Callee.value (Operand.func 39), args := #[Operand.tmp 103, Operand.tmp 105], argTypes := #[25, 3] }, type := 28, pos := _, after := #[{ on := 4, ground := Ground.data }, { on := 6, ground := Ground.data }, { on := 3, ground := Ground.chain }], guard := none }) rfl (fun K hK => ?_) AllReadyH.nil)
  go_simp
  refine hRr.mono ?_
  rintro e w3 ⟨rfl, hr3⟩
  try go_wp2_with fail
  have hk3 : Stp (Uv U V) w1 w3 := by obtain ⟨V3, b3, s3, g3⟩ := hr3; exact hk2.next s3 (fun x e => .inl (.inr e))
  refine hK.out _ _ (hS _ hk3) (fun hHeld => ?_)
  clear hK K
  try simp only [Act.put, List.setIfInBounds_toArray, List.set_cons_zero, List.set_cons_succ]
  refine wpAnyH_take (i := 8) (oi := { dst := some 107, op := Op.binOp BinOp.eql 28 (Operand.tmp 102) (Operand.tmp 106) 28, type := 4, pos := _, after := #[{ on := 3, ground := Ground.data }, { on := 7, ground := Ground.data }], guard := none }) (v := .bool true) rfl (by kernel_rfl) (by kernel_rfl) (by kernel_rfl) (fun _ _ _ h => h) (Or.inl ⟨by rfl, ?_⟩) hHeld ?_
  · intro u hu
    go_simp
  try simp only [Act.put, List.setIfInBounds_toArray, List.set_cons_zero, List.set_cons_succ]
  refine wpAnyH_take (i := 9) (oi := { dst := some 10, op := Op.assign (Operand.tmp 107), type := 4, pos := _, after := #[{ on := 8, ground := Ground.data }, { on := 7, ground := Ground.chain }, { on := 0, ground := Ground.phase }, { on := 1, ground := Ground.phase }, { on := 2, ground := Ground.phase }, { on := 3, ground := Ground.phase }, { on := 4, ground := Ground.phase }, { on := 5, ground := Ground.phase }, { on := 6, ground := Ground.phase }, { on := 7, ground := Ground.phase }, { on := 8, ground := Ground.phase }], guard := none }) (v := .bool true) rfl (by kernel_rfl) (by kernel_rfl) (by kernel_rfl) (fun _ _ _ h => h) (Or.inl ⟨by rfl, ?_⟩) hHeld ?_
  · intro u hu
    go_simp
  try simp only [Act.put, List.setIfInBounds_toArray, List.set_cons_zero, List.set_cons_succ]
  refine wpAnyH_done (by kernel_rfl) ?_ _
  clear hHeld hS
  go_wp2_with fail
  go_returns
  obtain ⟨U', V', h1, h2, h3⟩ := (H1.later (Below.refl _ w1).drew).pair c2 s2 g2 hr3
  exact ⟨by simp, Left.pre b1 ⟨_, U', V', h1, (ok.limit x.t hx.t).mono (by omega), ((Stp.refl _ w1).drew).trans h2, h3⟩⟩
set_option maxRecDepth 100000 in
set_option maxHeartbeats 2000000 in
theorem do_sync {w : World} {gc g gp yc y q : Nat} {Z : CZ} {U V : Nat → Prop} {t : Nat} (H : Bt w gc g gp yc y q Z U V) (ok : Z.ok t) (ht : t ≤ 9000) (x : A3) (hx : x.ok) (hm : among x.d 14 = 9) :
    Calls Try.prog 12 #[.pointer (some ⟨gc, 0, none⟩), .pointer (some ⟨yc, 0, none⟩), .pointer (some ⟨gp, 0, none⟩), .pointer (some ⟨q, 0, none⟩), .agg x.cs.toArray] w fun e w' => e = .returned (.bool true) ∧ Left gc g gp yc y q U V t w w' := by
  have am := fun w => among_any x.d 14 w (by omega) (by omega)
  rw [hm] at am
  go_enter Try.func12, Try.ntmps12
  go_wp2_with (first
    | (refine at_boxA (by rfl) _ (by rfl) x (by rfl) ?_; intro gb w1 a1 l1 r1 b1
       have x0 := A3.c0 r1
       have x1 := A3.c1 r1)
    | (go_at_call 23; refine (am _).mono ?_; rintro e u ⟨rfl, rfl⟩; clear am)
    | (go_at_call 27; refine (sync_ca (H.later b1).a ok ht).mono ?_; rintro e w2 ⟨rfl, U2, c2, s2, g2⟩)
    | (go_at_call 37; refine (rsync_ra ((H.later b1).mid s2) ok ht).mono ?_; rintro e w3 ⟨rfl, hr3⟩))
  go_returns
  obtain ⟨U', V', h1, h2, h3⟩ := (H.later b1).pair c2 s2 g2 hr3
  exact ⟨by simp, Left.pre b1 ⟨_, U', V', h1, (CZ.ok.syncL Z.chg ok).mono (by have := chg_len ok; omega), h2, h3⟩⟩
set_option maxRecDepth 100000 in
set_option maxHeartbeats 2000000 in
theorem do_restore {w : World} {gc g gp yc y q : Nat} {Z : CZ} {U V : Nat → Prop} {t : Nat} (H : Bt w gc g gp yc y q Z U V) (ok : Z.ok t) (ht : t ≤ 9000) (x : A3) (hx : x.ok) (hm : among x.d 14 = 12) :
    Calls Try.prog 12 #[.pointer (some ⟨gc, 0, none⟩), .pointer (some ⟨yc, 0, none⟩), .pointer (some ⟨gp, 0, none⟩), .pointer (some ⟨q, 0, none⟩), .agg x.cs.toArray] w fun e w' => e = .returned (.bool true) ∧ Left gc g gp yc y q U V t w w' := by
  have am := fun w => among_any x.d 14 w (by omega) (by omega)
  rw [hm] at am
  go_enter Try.func12, Try.ntmps12
  go_wp2_with (first
    | (refine at_boxA (by rfl) _ (by rfl) x (by rfl) ?_; intro gb w1 a1 l1 r1 b1
       have x0 := A3.c0 r1
       have x1 := A3.c1 r1)
    | (go_at_call 23; refine (am _).mono ?_; rintro e u ⟨rfl, rfl⟩; clear am)
    | (go_at_call 40; refine (restore_ca (H.later b1).a).mono ?_; rintro e w2 ⟨rfl, U2, c2, s2, g2⟩)
    | (go_at_call 41; refine (rrestore_ra ((H.later b1).mid s2)).mono ?_; rintro e w3 ⟨rfl, hr3⟩))
  go_returns
  obtain ⟨U', V', h1, h2, h3⟩ := (H.later b1).pair c2 s2 g2 hr3
  exact ⟨by simp, Left.pre b1 ⟨_, U', V', h1, ok.restore.mono (by omega), h2, h3⟩⟩
set_option maxRecDepth 100000 in
set_option maxHeartbeats 2000000 in
theorem do_drop {w : World} {gc g gp yc y q : Nat} {Z : CZ} {U V : Nat → Prop} {t : Nat} (H : Bt w gc g gp yc y q Z U V) (ok : Z.ok t) (ht : t ≤ 9000) (x : A3) (hx : x.ok) (hm : among x.d 14 = 10) :
    Calls Try.prog 12 #[.pointer (some ⟨gc, 0, none⟩), .pointer (some ⟨yc, 0, none⟩), .pointer (some ⟨gp, 0, none⟩), .pointer (some ⟨q, 0, none⟩), .agg x.cs.toArray] w fun e w' => e = .returned (.bool true) ∧ Left gc g gp yc y q U V t w w' := by
  have am := fun w => among_any x.d 14 w (by omega) (by omega)
  rw [hm] at am
  go_enter Try.func12, Try.ntmps12
  go_wp2_with (first
    | (refine at_boxA (by rfl) _ (by rfl) x (by rfl) ?_; intro gb w1 a1 l1 r1 b1
       have x0 := A3.c0 r1
       have x1 := A3.c1 r1)
    | (go_at_call 23; refine (am _).mono ?_; rintro e u ⟨rfl, rfl⟩; clear am)
    | (go_at_call 29; refine (drop_ca (H.later b1).a).mono ?_; rintro e w2 ⟨rfl, U2, c2, s2, g2⟩
       obtain ⟨⟨v2, z2⟩, f2, hr3⟩ := ((H.later b1).mid s2).dropped))
  go_returns
  obtain ⟨U', V', h1, h2, h3⟩ := (H.later b1).pair c2 s2 g2 hr3
  exact ⟨by simp, Left.pre b1 ⟨_, U', V', h1, ok.drop.mono (by omega), h2, h3⟩⟩
set_option maxRecDepth 100000 in
set_option maxHeartbeats 2000000 in
theorem do_get {w : World} {gc g gp yc y q : Nat} {Z : CZ} {U V : Nat → Prop} {t : Nat} (H : Bt w gc g gp yc y q Z U V) (ok : Z.ok t) (ht : t ≤ 9000) (x : A3) (hx : x.ok) (hm : ¬ (among x.d 14 : Int) = 3 ∧ ¬ (among x.d 14 : Int) = 4 ∧ ¬ (among x.d 14 : Int) = 5 ∧ ¬ (among x.d 14 : Int) = 13 ∧ ¬ (among x.d 14 : Int) = 6 ∧ ¬ (among x.d 14 : Int) = 7 ∧ ¬ (among x.d 14 : Int) = 8 ∧ ¬ (among x.d 14 : Int) = 9 ∧ ¬ (among x.d 14 : Int) = 10 ∧ ¬ (among x.d 14 : Int) = 11 ∧ ¬ (among x.d 14 : Int) = 12) :
    Calls Try.prog 12 #[.pointer (some ⟨gc, 0, none⟩), .pointer (some ⟨yc, 0, none⟩), .pointer (some ⟨gp, 0, none⟩), .pointer (some ⟨q, 0, none⟩), .agg x.cs.toArray] w fun e w' => e = .returned (.bool true) ∧ Left gc g gp yc y q U V t w w' := by
  have am := fun w => among_any x.d 14 w (by omega) (by omega)
  obtain ⟨n1, n2, n3, n4, n5, n6, n7, n8, n9, n10, n11⟩ := hm
  generalize among x.d 14 = mm at *
  have hq := eq36 (Z.got x.t) (Z.got x.t)
  have g36 := guard36
  rw [decide_eq_true rfl] at hq
  have hG := fun u (h : Bt u gc g gp yc y q Z U V) => get_ca h.a ok ht x.t hx.t
  have hR := fun u (h : Ra u yc y q Z V) => rget_ra h ok ht x.t hx.t
  generalize hbb : Z.got x.t = bb at *
  generalize hee : Z.holdE x.t = ee at *
  go_enter Try.func12, Try.ntmps12
  go_wp2_with (first
    | (refine at_boxA (by rfl) _ (by rfl) x (by rfl) ?_; intro gb w1 a1 l1 r1 b1
       have x0 := A3.c0 r1
       have x1 := A3.c1 r1)
    | (go_at_call 23; refine (am _).mono ?_; rintro e u ⟨rfl, rfl⟩; clear am)
    | (go_at_call 28; refine (hG _ (H.later b1)).mono ?_; rintro e w2 ⟨rfl, U2, c2, s2, g2⟩
       have r2 := r1.step s2 (fun e => H.far gb a1 (.inl e))
       have x2 := A3.c1 r2
       have hRa := (H.later b1).mid s2
       clear hG)
    | (have _t5 := rA5; refine at_newB (by rfl) (by rfl) ?_; intro gC w6 a6 l6 r6 b6)
    | (refine at_newB (by rfl) (by rfl) ?_; intro gA w3 a3 l3 r3 b3; have _t0 := a3)
    | (refine at_putB (by rfl) _ _ (by rfl) gA (by rfl) bb (by rfl) _ r3 ?_; intro w4 r4 s4
       have hgA := hRa.lt
       have hRa4 := (hRa.later b3).step s4 (fun x hx e => by have := hgA x hx; omega)
       have r24 := (r2.later b3).step s4 (fun e => by have := r2.lt; omega)
       have x4 := A3.c1 r24
       have B4 : Below w2.heap.size w2 w4 := ((Stp.of_below b3 (fun x => w2.heap.size ≤ x)).next s4 (fun x e => .inl (e ▸ a3))).below (Nat.le_refl _) (fun _ h => h)
       clear r3)
    | (go_at_call 42; refine (hR _ hRa4).mono ?_; rintro e w5 ⟨rfl, hr5⟩
       have rA5 : Cs w5 gA bb.cs := by
         obtain ⟨V5, b5, s5, g5⟩ := hr5
         exact r4.step s5 (fun e => by have := hgA gA e; omega)
       clear hR)
    | (refine at_putB (by rfl) _ _ (by rfl) gC (by rfl) bb (by rfl) _ r6 ?_; intro w7 r7 s7
       have rA7 := (rA5.later b6).step s7 (fun e => by have := rA5.lt; omega))
    | (refine at_getB (by rfl) _ (by rfl) gA (by rfl) bb rA7.range ?_)
    | (refine at_getB (by rfl) _ (by rfl) gC (by rfl) bb r7.range ?_))
  go_returns
  have cA := c2.later B4
  have sA : Stp U w1 w4 := s2.trans (Stp.of_below B4 U)
  have gA' : Grew U U2 w1 w4 := Grew.trans (b := w2) g2 (Grew.refl _ _ _) s2.size B4.size
  obtain ⟨U', V', h1, h2, h3⟩ := (H.later b1).pair cA sA gA' hr5
  have B7 : Below w5.heap.size w5 w7 := ((Stp.of_below b6 (fun x => w5.heap.size ≤ x)).next s7 (fun x e => .inl (e ▸ a6))).below (Nat.le_refl _) (fun _ h => h)
  exact ⟨by simp, Left.pre b1 ⟨_, U', V', h1.later B7, (ok.hold _).mono (by omega), h2.trans (Stp.of_below B7 _), Grew.trans (b := w5) h3 (Grew.refl _ _ _) h2.size B7.size⟩⟩
theorem do_any {w : World} {gc g gp yc y q : Nat} {Z : CZ} {U V : Nat → Prop} {t : Nat} (H : Bt w gc g gp yc y q Z U V) (ok : Z.ok t) (ht : t ≤ 9000) (x : A3) (hx : x.ok) :
    Calls Try.prog 12 #[.pointer (some ⟨gc, 0, none⟩), .pointer (some ⟨yc, 0, none⟩), .pointer (some ⟨gp, 0, none⟩), .pointer (some ⟨q, 0, none⟩), .agg x.cs.toArray] w fun e w' => e = .returned (.bool true) ∧ Left gc g gp yc y q U V t w w' := by
  have h14 := among_lt x.d 14 (by omega)
  have hc : among x.d 14 = 3 ∨ among x.d 14 = 4 ∨ among x.d 14 = 5 ∨ among x.d 14 = 13 ∨ among x.d 14 = 6 ∨ among x.d 14 = 7 ∨ among x.d 14 = 8 ∨ among x.d 14 = 9 ∨ among x.d 14 = 10 ∨ among x.d 14 = 11 ∨ among x.d 14 = 12 ∨ (¬ (among x.d 14 : Int) = 3 ∧ ¬ (among x.d 14 : Int) = 4 ∧ ¬ (among x.d 14 : Int) = 5 ∧ ¬ (among x.d 14 : Int) = 13 ∧ ¬ (among x.d 14 : Int) = 6 ∧ ¬ (among x.d 14 : Int) = 7 ∧ ¬ (among x.d 14 : Int) = 8 ∧ ¬ (among x.d 14 : Int) = 9 ∧ ¬ (among x.d 14 : Int) = 10 ∧ ¬ (among x.d 14 : Int) = 11 ∧ ¬ (among x.d 14 : Int) = 12) := by omega
  rcases hc with h | h | h | h | h | h | h | h | h | h | h | h
  · exact do_put3 H ok ht x hx h
  · exact do_put4 H ok ht x hx h
  · exact do_put5 H ok ht x hx h
  · exact do_force H ok ht x hx h
  · exact do_pin H ok ht x hx h
  · exact do_unpin H ok ht x hx h
  · exact do_back H ok ht x hx h
  · exact do_sync H ok ht x hx h
  · exact do_drop H ok ht x hx h
  · exact do_limit H ok ht x hx h
  · exact do_restore H ok ht x hx h
  · exact do_get H ok ht x hx h
end Go.Proofs.Ytecedklfdmbnpaa
