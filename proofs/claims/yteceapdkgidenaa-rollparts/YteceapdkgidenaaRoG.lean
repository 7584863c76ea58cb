/-
  What Now of layer 15 returns: no statement is proved here.
-/
import Derived.Test.YteceapdkgidenaaRoF
namespace Go.Proofs.Yteceapdkgidenaa
open Go.ChangeShapes Go.WideShapes Go.ChangeAt Go.RowKit
set_option linter.unusedVariables false
set_option linter.unusedSimpArgs false

set_option maxRecDepth 100000 in
theorem now1_any (p : Pt) (d n : Sv) (w : World) : Calls Try.prog 37 #[.agg (p.cs d n).toArray] w fun e w' => e = .returned (.bool true) ∧ Below w.heap.size w w' := by
  go_enter Try.func37, Try.ntmps37
  go_wp2_with (first
    | (refine at_boxP (by rfl) _ (by rfl) p d n (by rfl) ?_; intro g1 w1 a1 z1 r1 b1))
  go_returns
  exact ⟨rfl, b1⟩
theorem filter_all {α : Type} (l : List α) : l.filter (fun _ => true) = l := by simp
set_option maxRecDepth 100000 in
set_option maxHeartbeats 2000000 in
theorem now_any {w : World} {E : Nat → Prop} {s : Sv} {L : List Pe} (H : Ps w E s L) (b : Blk) (hE : ∀ x, E x → x < w.heap.size) :
    Calls Try.prog 17 #[.agg b.cs.toArray, .slice s.a s.n s.c] w fun e w' => e = .returned (.tuple #[.agg (nwB b (pts L)).cs.toArray, .int .i64 (nwE (pts L))]) ∧ Below w.heap.size w w' := by
  have hb := b.len
  have HO : ∀ u, Below w.heap.size w u → _ := fun u hu => over_any (H.later hu) 37 #[] (fun _ => true) b (fun v p d n _ _ => now1_any p d n v) (fun args w => rfl) (fun x hx => Nat.lt_of_lt_of_le (hE x hx) hu.size)
  rw [filter_all] at HO
  have hR := (nwB b (pts L)).len
  generalize nwB b (pts L) = R at *
  generalize nwE (pts L) = e0 at *
  go_enter Try.func17, Try.ntmps17
  go_wp2_with (first
    | (refine at_box 23 64 arrB (by rfl) _ (by rfl) b.l (by rfl) hb ?_; intro gb w1 a1 z1 r1 b1)
    | (refine at_new 23 64 arrB (by rfl) (by rfl) ?_; intro gr w2 a2 z2 r2 b2)
    | (refine at_get 23 64 arrB (by rfl) _ (by rfl) gb (by rfl) _ (r1.later b2) hb ?_)
    | (go_at_call 36; refine (HO _ (bnext b1 b2 (Nat.le_refl _))).mono ?_; rintro e w3 ⟨rfl, b3⟩)
    | (refine at_put 23 64 arrB (by rfl) _ _ (by rfl) gr (by rfl) R.l (by rfl) hR _ (r2.later b3) (by simp) ?_; intro w9 r9 s9))
  have S3 : Stp (fun x => w.heap.size ≤ x) w w3 := Stp.of_below (bnext (bnext b1 b2 (Nat.le_refl _)) b3 (Nat.le_refl _)) _
  have hgr : w.heap.size ≤ gr := by have := b1.size; omega
  exact bodyPost_ret (retAt arrB Try.results17 rfl rfl r9 hR) rfl ⟨rfl, (S3.next s9 (fun x hx => .inl (by subst hx; exact hgr))).below (Nat.le_refl _) (fun _ h => h)⟩
end Go.Proofs.Yteceapdkgidenaa
