/-
  What New, Read, Len, Writes, Waits, use of a disk of layer 4 return: no statement is proved here.
-/
import Derived.Test.YtecedklfdmbnpaaDskC
namespace Go.Proofs.Ytecedklfdmbnpaa
open Go.ChangeShapes Go.WideShapes Go.ChangeAt Go.RowKit
set_option linter.unusedVariables false

/-- The supply at sp: none, or one that holds s; G: its blocks. -/
def Sup (w : World) (sp : Value) (p : Option PS) (G : Nat → Prop) : Prop :=
  match p with
  | none => sp = .pointer none
  | some s => ∃ gp, sp = .pointer (some ⟨gp, 0, none⟩) ∧ Pw w gp s ∧ G gp
def oErr (p : Option PS) : Int := match p with | none => 0 | some s => s.useErr
def oUse (p : Option PS) : Option PS := p.map PS.use
def oOk (p : Option PS) : Prop := ∀ s, p = some s → s.ok
theorem Pw.stp {F : Nat → Prop} {w w' : World} {g : Nat} {p : PS} (h : Pw w g p) (k : Stp F w w') (hg : ¬ F g) : Pw w' g p :=
  ⟨k.cell h.c0 hg, k.cell h.c1 hg, k.cell h.c2 hg, k.cell h.c3 hg, by rw [k.frozen (p := ⟨g, 0, none⟩) h.lt hg]; exact h.f0, by rw [k.frozen (p := ⟨g, 1, none⟩) h.lt hg]; exact h.f1,
   by rw [k.frozen (p := ⟨g, 2, none⟩) h.lt hg]; exact h.f2, by rw [k.frozen (p := ⟨g, 3, none⟩) h.lt hg]; exact h.f3⟩
theorem Sup.step {w w' : World} {sp : Value} {p : Option PS} {G B : Nat → Prop} (h : Sup w sp p G) (k : Stp B w w') (hB : ∀ x, G x → ¬ B x) : Sup w' sp p G := by
  cases p with
  | none => exact h
  | some s => obtain ⟨gp, e, h1, h2⟩ := h; exact ⟨gp, e, h1.stp k (hB gp h2), h2⟩
theorem sup_use {w : World} {sp : Value} {p : Option PS} {G : Nat → Prop} (h : Sup w sp p G) (ok : oOk p) :
    Calls Try.prog 81 #[sp] w fun e w' => e = .returned (.int .i64 (oErr p)) ∧ Stp G w w' ∧ Sup w' sp (oUse p) G := by
  cases p with
  | none =>
    obtain rfl : sp = .pointer none := h
    refine (puse_nil w).mono ?_
    rintro e w' ⟨rfl, hb⟩
    exact ⟨rfl, Stp.of_below hb _, rfl⟩
  | some s =>
    obtain ⟨gp, rfl, h1, h2⟩ := h
    refine (puse_any gp s w h1 (ok s rfl)).mono ?_
    rintro e w' ⟨rfl, hb, hp⟩
    exact ⟨rfl, Stp.of_step hb (by intro x hx; simp at hx; subst hx; exact .inl h2), gp, rfl, hp, h2⟩

def useRes (S : DS) (p : Option PS) (i : Int) : Int := if S.inn i then oErr p else 2
def useP (S : DS) (p : Option PS) (i : Int) : Option PS := if S.inn i then oUse p else p
theorem use_any {F G : Nat → Prop} {w : World} {g m1 m2 : Nat} {sp : Value} {S : DS} {f : Int → Option Value} {p : Option PS} (h : Dk w g sp m1 m2 S f F) (hs : Sup w sp p G) (ok : oOk p) (i : Int) :
    Calls Try.prog 62 #[.pointer (some ⟨g, 0, none⟩), .int .i64 i] w fun e w' => e = .returned (.int .i64 (useRes S p i)) ∧ Stp G w w' ∧ Sup w' sp (useP S p i) G := by
  have c1 := h.c1
  have hc := check_any h i
  by_cases hi : S.inn i
  · have e1 : useRes S p i = oErr p := if_pos hi
    have e2 : useP S p i = oUse p := if_pos hi
    have e3 : checkErr S i = 0 := if_pos hi
    rw [e1, e2]; rw [e3] at hc; clear e1 e2 e3 hi
    go_enter Try.func62, Try.ntmps62
    go_wp2_with (first
      | (go_at_call 46; refine hc.mono ?_; rintro e u ⟨rfl, rfl⟩)
      | (go_at_call 81; refine (sup_use hs ok).mono ?_; rintro e u ⟨rfl, h2, h3⟩))
    go_returns
    exact ⟨rfl, h2, h3⟩
  · have e1 : useRes S p i = 2 := if_neg hi
    have e2 : useP S p i = p := if_neg hi
    have e3 : checkErr S i = 2 := if_neg hi
    rw [e1, e2]; rw [e3] at hc; clear e1 e2 e3 hi
    go_enter Try.func62, Try.ntmps62
    go_wp2_with (first
      | (go_at_call 46; refine hc.mono ?_; rintro e u ⟨rfl, rfl⟩))
    go_returns
    exact ⟨rfl, Stp.refl _ _, hs⟩
theorem use_nil (i : Int) (w : World) :
    Calls Try.prog 62 #[.pointer none, .int .i64 i] w fun e w' => e = .returned (.int .i64 1) ∧ w = w' := by
  have hc := check_nil i w
  go_enter Try.func62, Try.ntmps62
  go_wp2_with (first
    | (go_at_call 46; refine hc.mono ?_; rintro e u ⟨rfl, rfl⟩))
  go_returns
  exact ⟨rfl, rfl⟩

def DS.new (n : Nat) : DS := ⟨n, fun _ => Blk.zero, fun _ => [], 0⟩
theorem new_bad (n : Int) (q : Option Addr) (w : World) (hn : n < 1 ∨ 2048 < n) :
    Calls Try.prog 8 #[.int .i64 n, .pointer q] w fun e w' => e = .returned (.tuple #[.pointer none, .int .i64 2]) ∧ w = w' := by
  by_cases h1 : n < 1
  · clear hn
    go_enter Try.func8, Try.ntmps8
    go_wp2
    go_ret2
    exact ⟨rfl, rfl⟩
  · have h2 : 2048 < n := by omega
    clear hn
    go_enter Try.func8, Try.ntmps8
    go_wp2
    go_ret2
    exact ⟨rfl, rfl⟩
theorem new_any (n : Nat) (q : Option Addr) (w : World) (h1 : 1 ≤ n) (h2 : n ≤ 2048) :
    Calls Try.prog 8 #[.int .i64 n, .pointer q] w fun e w' => e = .returned (.tuple #[.pointer (some ⟨w.heap.size + 2, 0, none⟩), .int .i64 0]) ∧ Below w.heap.size w w' ∧ w'.heap.size = w.heap.size + 3 ∧
      Disk w' (w.heap.size + 2) (.pointer q) (DS.new n) (fun x => w.heap.size ≤ x ∧ x < w.heap.size + 3) := by
  have h1' : (1 : Int) ≤ (n : Int) := by omega
  have mk1 : ∀ u : World, (Instr.makeMap 69 none).run Try.prog u = .ok (.map (some u.heap.size)) (u.alloc (.map #[] 0)) := fun u => rfl
  have mk2 : ∀ u : World, (Instr.makeMap 70 none).run Try.prog u = .ok (.map (some u.heap.size)) (u.alloc (.map #[] 0)) := fun u => rfl
  have h2' : (n : Int) ≤ 2048 := by omega
  go_enter Try.func8, Try.ntmps8
  go_wp2
  go_ret2
  have hs1 : ∀ u : World, Stp (fun _ => False) u u := fun u => Stp.refl _ u
  refine ⟨rfl, by go_grown, by simp, w.heap.size, w.heap.size + 1, fun _ => none, ⟨by simp [go_sem, DS.new], by simp [go_sem], by simp [go_sem], by simp [go_sem], by simp [go_sem, DS.new], by simp [go_sem], ?_, ⟨h1, h2, fun _ _ => rfl, fun _ _ => rfl⟩, by omega, by omega, by omega, by omega, by simp, fun _ _ => rfl, fun k hk => absurd rfl hk, fun k k' r e => by cases e⟩, ?_⟩
  · have e : stF (DS.new n) = fun _ => none := by funext k; simp [stF, DS.new]
    rw [e]
    exact ((MpI.made w _ _).step (Stp.of_alloc _ _ (fun _ => False)) id).step (Stp.of_alloc _ _ (fun _ => False)) id
  · have := ((MpI.made (w.alloc (.map #[] 0)) Try.prog 3).step (Stp.of_alloc _ (.cells #[.int .i64 n, .pointer q, .map (some w.heap.size), .map (some (w.heap.size + 1)), .int .i64 0] 72) (fun _ => False)) id)
    simpa using this

/-- What sector i shows (noughts where there is none). -/
def DS.shown (S : DS) (i : Int) : Blk := shownBy S i (S.wt i)
theorem shown_out {S : DS} (h : S.ok) {i : Int} (hi : ¬ S.inn i) : S.shown i = Blk.zero := by unfold DS.shown shownBy; rw [h.wt i hi, h.st i hi]; rfl
set_option maxRecDepth 100000 in
theorem read_any {F : Nat → Prop} {w : World} {g : Nat} {sp : Value} {S : DS} (h : Disk w g sp S F) (i : Int) (hwf : (Lit.int .i64 i).wf = true) :
    Calls Try.prog 20 #[.pointer (some ⟨g, 0, none⟩), .int .i64 i] w fun e w' => e = .returned (.tuple #[.agg (S.shown i).cs.toArray, .int .i64 (checkErr S i)]) ∧ Below w.heap.size w w' := by
  obtain ⟨m1, m2, f, h, hm⟩ := h
  have s0 : ∀ o, Stp (fun _ => False) w (w.alloc o) := fun o => Stp.of_alloc _ _ _
  have hc := fun o => check_any (h.step (s0 o) (fun _ _ => id)) i
  have c3 := h.c3
  have hlt := h.lt g h.fg
  by_cases hi : S.inn i
  · have e3 : checkErr S i = 0 := if_pos hi
    obtain ⟨a, c, e, hb⟩ := h.waits i
    rw [e3]; simp only [e3] at hc; clear e3 hi
    have hsh := fun o => shown_any (h.step (s0 o) (fun _ _ => id)) i hwf (hb.step (s0 o) (fun _ _ => id))
    go_enter Try.func20, Try.ntmps20
    go_wp2_with (first
      | (refine at_alloc (by rfl) (by rfl) ?_)
      | (go_at_call 46; refine (hc _).mono ?_; rintro e u ⟨rfl, rfl⟩)
      | (refine at_look (f := f) (by rfl) _ _ (by rfl) u64 _ (zero41 _) i (by rfl) (by rfl) (hm.step (s0 _) id) hwf ?_; rw [e])
      | (go_at_call 47; refine (hsh _).mono ?_; rintro e u ⟨rfl, hu⟩; have k1 := (Stp.of_below hu (fun _ => False)).there (there_made w) id)
      | (refine at_store (by rfl) _ _ (by rfl) _ _ (by rfl) _ (by rfl) k1 ?_))
    have k2 := World.rangeAt_setCells_same u w.heap.size 0 (shownBy S i (S.wt i)).cs (by rw [Blk.cs_len]; exact k1)
    refine bodyPost_ret (ret2 Try.results20 rfl rfl k2) rfl ⟨rfl, ?_⟩
    have : Stp (fun x => x = w.heap.size) w (u.setCells w.heap.size 0 (shownBy S i (S.wt i)).cs) := ((Stp.of_alloc w _ _).trans (Stp.of_below hu _)).trans (Stp.of_setCells u _ _ _ (.inl rfl))
    exact this.below (Nat.le_refl _) (by rintro x rfl; exact Nat.le_refl _)
  · have e3 : checkErr S i = 2 := if_neg hi
    rw [e3, shown_out h.ok hi]; simp only [e3] at hc; clear e3 hi
    go_enter Try.func20, Try.ntmps20
    go_wp2_with (first
      | (refine at_alloc (by rfl) (by rfl) ?_)
      | (go_at_call 46; refine (hc _).mono ?_; rintro e u ⟨rfl, rfl⟩)
      | (refine at_build (by rfl) (by rfl) ?_)
      | (refine at_store (by rfl) _ _ (by rfl) _ _ (by rfl) Blk.zero (by rfl) (there_made w) ?_; rw [setCells_made]))
    refine bodyPost_ret (ret2 Try.results20 rfl rfl (made_range w _ _)) rfl ⟨rfl, by go_grown⟩
set_option maxRecDepth 100000 in
theorem read_nil (i : Int) (w : World) :
    Calls Try.prog 20 #[.pointer none, .int .i64 i] w fun e w' => e = .returned (.tuple #[.agg Blk.zero.cs.toArray, .int .i64 1]) ∧ Below w.heap.size w w' := by
  have hc := check_nil i
  go_enter Try.func20, Try.ntmps20
  go_wp2_with (first
    | (refine at_alloc (by rfl) (by rfl) ?_)
    | (go_at_call 46; refine (hc _).mono ?_; rintro e u ⟨rfl, rfl⟩)
    | (refine at_build (by rfl) (by rfl) ?_)
    | (refine at_store (by rfl) _ _ (by rfl) _ _ (by rfl) Blk.zero (by rfl) (there_made w) ?_; rw [setCells_made]))
  refine bodyPost_ret (ret2 Try.results20 rfl rfl (made_range w _ _)) rfl ⟨rfl, by go_grown⟩
end Go.Proofs.Ytecedklfdmbnpaa
