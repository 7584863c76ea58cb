/-
  Texts of my own, joined: no statement is proved here.
-/
import Derived.Lib.Walk
import Derived.Deep.RegionLaw
import Derived.Test.YtgdnhkdfcjpdiaaGreatDoorRows
import Derived.OpenShut
import Derived.Shelf.SlIterI.Sorted
import Derived.Shelf.SlIterI.Keys
import Derived.Test.YtgdnhkdfcjpdiaaGreatDoorJbo
import Derived.Test.YtgdnhkdfcjpdiaaGreatDoorJbp
import Derived.Test.YtgdnhkdfcjpdiaaGreatDoorJbt
import Derived.Test.YtgdnhkdfcjpdiaaGreatDoorJbu
set_option linter.unusedSimpArgs false
set_option linter.unusedVariables false
namespace Go.Proofs.YtgdnhkdfcjpdiaaGreatDoor
open Go.ChangeShapes Go.WideShapes Go.ChangeAt Go.RowKit
set_option maxRecDepth 100000
def blkAt (s : Gm) (i : Int) : Blk := if s.pk i = 1 then pBS 1 1 (spP s) else if s.pk i = 2 then pBS 2 1 (hL (s.pg i)) else if s.pk i = 3 then pBS 3 1 Ld.zero else if s.pk i = 4 then pBS 4 1 Ld.zero else Blk.zero
def blkK (s : Gm) (n k : Nat) : List Blk := (List.range n).map fun (i : Nat) => if i < k then blkAt s (i : Int) else Blk.zero
def blkL (s : Gm) (n : Nat) : List Blk := (List.range n).map fun (i : Nat) => blkAt s (i : Int)
theorem blkK_zero (s : Gm) (n : Nat) : blkK s n 0 = List.replicate n Blk.zero := by
  unfold blkK
  apply List.ext_getElem
  · simp
  · intro i h1 h2; simp
theorem blkK_all (s : Gm) (n : Nat) : blkK s n n = blkL s n := by
  unfold blkK blkL
  apply List.map_congr_left
  intro i hi
  rw [if_pos (List.mem_range.1 hi)]
theorem blkK_set (s : Gm) {n k : Nat} (hk : k < n) : (blkK s n k).set k (blkAt s (k : Int)) = blkK s n (k + 1) := by
  unfold blkK
  apply List.ext_getElem
  · simp
  · intro i h1 h2
    rw [List.getElem_set]
    by_cases e : k = i
    · subst e; simp
    · simp only [if_neg e, List.getElem_map, List.getElem_range]
      by_cases h : i < k
      · rw [if_pos h, if_pos (by omega)]
      · rw [if_neg h, if_neg (by omega)]
theorem blkK_same (s : Gm) {n k : Nat} (hk : k < n) (h : blkAt s (k : Int) = Blk.zero) : blkK s n k = blkK s n (k + 1) := by
  unfold blkK
  apply List.map_congr_left
  intro i hi
  by_cases e : i = k
  · subst e; rw [if_neg (by omega), if_pos (by omega), h]
  · by_cases h2 : i < k
    · rw [if_pos h2, if_pos (by omega)]
    · rw [if_neg h2, if_neg (by omega)]
theorem srtPr : Srt 84 3 [.int .i64 0, .int .i64 0, .int .i64 0] :=
  ⟨⟨_, Tryz.underlying84, rfl⟩, by kernel_rfl, fun w => (zero_of_info (v := .agg #[.int .i64 0, .int .i64 0, .int .i64 0]) (n := 3) (by kernel_rfl)).1 w, rfl, by intro v hv; simp at hv; subst hv; rfl⟩
structure BkI (u wr : World) (s : Gm) (n k gb g1 g4 : Nat) : Prop where
  w : Wd wr gb n n (blkK s n k)
  g : GR wr g1 s
  p : Row wr g4 (spP s).l
  b : Below u.heap.size u wr
set_option maxHeartbeats 4000000 in
theorem blank_any (s : Gm) (n : Nat) (hn : s.total = (n : Int)) (hn2 : n ≤ 2048) (u : World) :
    Calls Tryz.prog 9 #[.agg #[.int .i64 s.g, .int .i64 s.i, .int .i64 s.d]] u fun e w' => ∃ b, e = .returned (.slice (some ⟨b, 0, none⟩) n n) ∧ u.heap.size ≤ b ∧ Wd w' b n n (blkL s n) ∧ Below u.heap.size u w' := by
  have hT := fun w => rtotal_any s w
  rw [hn] at hT
  have hP := fun w => rsput_any s w
  have hpl := (spP s).len
  have hW := fun (x : Int) w => rwhere_any s x w
  have t1 : Hid True := trivial
  generalize s.err = se at *
  go_enter Tryz.func9, Tryz.ntmps9
  go_wp2_with (first
    | (refine at_boxG (by rfl) _ (by rfl) s (by rfl) ?_; intro g1 w1 a1 z1 r1 b1)
    | (clear t1; refine at_getG (by rfl) _ (by rfl) g1 (by rfl) s r1 ?_)
    | (go_at_call 30; refine (hT _).mono ?_; rintro e w2 ⟨rfl, b2⟩; clear hT)
    | (refine at_mkB (by rfl) _ (by rfl) n (by rfl) (by omega) ?_; intro gb w3 a3 r3 b3; have r13 := r1.later (bnext b2 b3 (Nat.le_refl _)))
    | (refine at_getG (by rfl) _ (by rfl) g1 (by rfl) s r13 ?_)
    | (go_at_call 31; refine (hP _).mono ?_; rintro e w4 ⟨rfl, b4⟩; clear hP)
    | (refine at_new 62 54 arrL (by rfl) (by rfl) ?_; intro g4 w5 a5 z5 r5 b5)
    | (refine at_put 62 54 arrL (by rfl) _ _ (by rfl) g4 (by rfl) (spP s).l (by rfl) hpl _ r5 (by simp) ?_; intro w6 r6 s6))
  have hz2 := b1.size
  have hz3 := b2.size
  have hz4 := b3.size
  have hz5 := b4.size
  have B6 : Below u.heap.size u w6 := ((Stp.of_below (bnext (bnext (bnext (bnext b1 b2 (Nat.le_refl _)) b3 (Nat.le_refl _)) b4 (Nat.le_refl _)) b5 (Nat.le_refl _)) (fun _ => False)).next s6 (fun x e => .inr (by omega))).below (Nat.le_refl _) (fun x e => e.elim)
  have hgb : gb < w3.heap.size := r3.lt
  have hub : u.heap.size ≤ gb := by omega
  have start : BkI u w6 s n 0 gb g1 g4 := ⟨by rw [blkK_zero]; exact ((r3.later b4).later b5).step s6 (fun e => by omega), (r13.later (bnext b4 b5 (Nat.le_refl _))).step s6 (fun e => by omega), r6, B6⟩
  have n14 : gb ≠ g1 ∧ gb ≠ g4 := ⟨by omega, by omega⟩
  clear r1 r13 r3 r5 r6 s6 b1 b2 b3 b4 b5 a5 z5 a3
  go_loopw [6] (fun x wr => ∃ k : Nat, k ≤ n ∧ x = .int .i64 (k : Int) ∧ BkI u wr s n k gb g1 g4) (fun x _ => n - (intOf x).toNat)
  case atStart => exact ⟨0, Nat.zero_le _, rfl, start⟩
  case round =>
    clear start B6
    obtain ⟨k, hk, rfl, I⟩ := hrel
    by_cases hlt : k < n
    · have hlt' : (k : Int) < (n : Int) := by omega
      have hWk := hW (k : Int)
      have e0 : Hid (blkAt s (k : Int) = if s.pk k = 1 then pBS 1 1 (spP s) else if s.pk k = 2 then pBS 2 1 (hL (s.pg k)) else if s.pk k = 3 then pBS 3 1 Ld.zero else if s.pk k = 4 then pBS 4 1 Ld.zero else Blk.zero) := by show _ = _; rfl
      have hset : ∀ b, blkAt s (k : Int) = b → (blkK s n k).set k b = blkK s n (k + 1) := fun b h => by rw [← h]; exact blkK_set s hlt
      have hsame := blkK_same s hlt
      have hIg := I.g
      have hIp := I.p
      have hIw := I.w
      have hIb := I.b
      generalize s.pk (k : Int) = K at *
      generalize s.pg (k : Int) = Gk at *
      generalize s.pi (k : Int) = Ik at *
      generalize s.werr (k : Int) = ek at *
      clear hW
      have fin : ∀ w8 w9 b, Below wr.heap.size wr w8 → Wd w9 gb n n ((blkK s n k).set k b) → Stp (fun x => x = gb) w8 w9 → blkAt s (k : Int) = b → BkI u w9 s n (k + 1) gb g1 g4 := fun w8 w9 b b8 r9 s9 h => ⟨by rw [← hset b h]; exact r9, (hIg.later b8).step s9 (fun e => n14.1 e.symm), (hIp.later b8).step s9 (fun e => n14.2 e.symm), ((Stp.of_below (bnext hIb b8 (Nat.le_refl _)) (fun _ => False)).next s9 (fun x e => .inr (by omega))).below (Nat.le_refl _) (fun x e => e.elim)⟩
      have fin0 : ∀ w8, Below wr.heap.size wr w8 → blkAt s (k : Int) = Blk.zero → BkI u w8 s n (k + 1) gb g1 g4 := fun w8 b8 h => ⟨by rw [← hsame h]; exact hIw.later b8, hIg.later b8, hIp.later b8, bnext hIb b8 (Nat.le_refl _)⟩
      clear hset hsame I
      have t2 : Hid True := trivial
      by_cases k1 : K = 1
      · subst k1
        have hb : Hid (blkAt s (k : Int) = pBS 1 1 (spP s)) := by show _ = _; rw [e0.out]; rfl
        have hPt := fun w => rput_anyS 1 1 (spP s) w (by omega)
        generalize pBS 1 1 (spP s) = X at *
        clear e0
        go_wp2_with (first
          | (refine at_getG (by rfl) _ (by rfl) g1 (by rfl) s hIg ?_)
          | (go_at_call 32; refine (hWk _).mono ?_; rintro e w2 ⟨rfl, b2⟩; clear hWk)
          | (refine at_newC 84 3 _ srtPr (by rfl) (by rfl) ?_; intro g3 w3 a3 z3 r3 b3)
          | (refine at_putC 84 3 _ srtPr (by rfl) _ _ (by rfl) g3 (by rfl) [.int .i64 1, .int .i64 Gk, .int .i64 Ik] (by rfl) rfl (by intro v hv; simp at hv; rcases hv with rfl | rfl | rfl <;> rfl) _ r3 (by rfl) ?_; intro w4 r4 s4
             have hg3 := b2.size
             have B4 : Below wr.heap.size wr w4 := ((Stp.of_below (bnext b2 b3 (Nat.le_refl _)) (fun _ => False)).next s4 (fun x e => .inr (by omega))).below (Nat.le_refl _) (fun x e => e.elim)
             have c0 := r4.cell 0 _ rfl)
          | (refine at_get 62 54 arrL (by rfl) _ (by rfl) g4 (by rfl) _ (hIp.later B4) hpl ?_)
          | (go_at_call 33; refine (hPt _).mono ?_; rintro e w5 ⟨rfl, b5⟩; clear hPt; have B5 := bnext B4 b5 (Nat.le_refl _))
          | (refine at_putM (by rfl) _ _ (by rfl) gb k n n _ _ (by rfl) (by omega) X (by rfl) (hIw.later B5) hlt ?_; intro w6 r6 s6))
        have J := fin w5 w6 X B5 r6 s6 hb.out
        go_wp2_with fail
        go_roundw
        case rel => exact ⟨k + 1, by omega, by go_num, J⟩
        case measure => simp [intOf]; omega
      · by_cases k2 : K = 2
        · subst k2
          have hb : Hid (blkAt s (k : Int) = pBS 2 1 (hL Gk)) := by show _ = _; rw [e0.out]; rfl
          have hPt := fun w => rput_anyS 2 1 (hL Gk) w (by omega)
          have hH := fun w => rmhead_any Gk w
          have hhl := (hL Gk).len
          generalize pBS 2 1 (hL Gk) = X at *
          generalize hL Gk = HL at *
          generalize hE Gk = e7 at *
          clear e0
          go_wp2_with (first
            | (refine at_getG (by rfl) _ (by rfl) g1 (by rfl) s hIg ?_)
            | (go_at_call 32; refine (hWk _).mono ?_; rintro e w2 ⟨rfl, b2⟩; clear hWk)
            | (refine at_newC 84 3 _ srtPr (by rfl) (by rfl) ?_; intro g3 w3 a3 z3 r3 b3)
            | (refine at_putC 84 3 _ srtPr (by rfl) _ _ (by rfl) g3 (by rfl) [.int .i64 2, .int .i64 Gk, .int .i64 Ik] (by rfl) rfl (by intro v hv; simp at hv; rcases hv with rfl | rfl | rfl <;> rfl) _ r3 (by rfl) ?_; intro w4 r4 s4
               have hg3 := b2.size
               have B4 : Below wr.heap.size wr w4 := ((Stp.of_below (bnext b2 b3 (Nat.le_refl _)) (fun _ => False)).next s4 (fun x e => .inr (by omega))).below (Nat.le_refl _) (fun x e => e.elim)
               have c0 := r4.cell 0 _ rfl
               have c1 := r4.cell 1 _ rfl)
            | (go_at_call 34; refine (hH _).mono ?_; rintro e w7 ⟨rfl, b7⟩; clear hH; have B7 := bnext B4 b7 (Nat.le_refl _))
            | (refine at_new 62 54 arrL (by rfl) (by rfl) ?_; intro g9 w8 a8 z8 r8 b8)
            | (refine at_put 62 54 arrL (by rfl) _ _ (by rfl) g9 (by rfl) HL.l (by rfl) hhl _ r8 (by simp) ?_; intro w9 r9 s9
               have hg9 := B7.size
               have B9 : Below wr.heap.size wr w9 := ((Stp.of_below (bnext B7 b8 (Nat.le_refl _)) (fun _ => False)).next s9 (fun x e => .inr (by omega))).below (Nat.le_refl _) (fun x e => e.elim))
            | (refine at_get 62 54 arrL (by rfl) _ (by rfl) g9 (by rfl) _ r9 hhl ?_)
            | (go_at_call 33; refine (hPt _).mono ?_; rintro e w5 ⟨rfl, b5⟩; clear hPt; have B5 := bnext B9 b5 (Nat.le_refl _))
            | (refine at_putM (by rfl) _ _ (by rfl) gb k n n _ _ (by rfl) (by omega) X (by rfl) (hIw.later B5) hlt ?_; intro w6 r6 s6))
          have J := fin w5 w6 X B5 r6 s6 hb.out
          go_wp2_with fail
          go_roundw
          case rel => exact ⟨k + 1, by omega, by go_num, J⟩
          case measure => simp [intOf]; omega
        · by_cases k3 : K = 3 ∨ K = 4
          · have hb : Hid (blkAt s (k : Int) = pBS K 1 Ld.zero) := by
              show _ = _
              rw [e0.out]
              rcases k3 with rfl | rfl <;> rfl
            have hPt := fun w => rput_anyS K 1 Ld.zero w (by omega)
            generalize pBS K 1 Ld.zero = X at *
            generalize pE K = e8 at *
            clear e0
            rcases k3 with rfl | rfl
            all_goals
              go_wp2_with (first
                | (refine at_getG (by rfl) _ (by rfl) g1 (by rfl) s hIg ?_)
                | (go_at_call 32; refine (hWk _).mono ?_; rintro e w2 ⟨rfl, b2⟩; clear hWk)
                | (refine at_newC 84 3 _ srtPr (by rfl) (by rfl) ?_; intro g3 w3 a3 z3 r3 b3)
                | (refine at_putC 84 3 _ srtPr (by rfl) _ _ (by rfl) g3 (by rfl) [.int .i64 _, .int .i64 Gk, .int .i64 Ik] (by rfl) rfl (by intro v hv; simp at hv; rcases hv with rfl | rfl | rfl <;> rfl) _ r3 (by rfl) ?_; intro w4 r4 s4
                   have hg3 := b2.size
                   have B4 : Below wr.heap.size wr w4 := ((Stp.of_below (bnext b2 b3 (Nat.le_refl _)) (fun _ => False)).next s4 (fun x e => .inr (by omega))).below (Nat.le_refl _) (fun x e => e.elim)
                   have c0 := r4.cell 0 _ rfl)
                | (refine at_bldL (by rfl) (by rfl) ?_)
                | (go_at_call 33; refine (hPt _).mono ?_; rintro e w5 ⟨rfl, b5⟩; clear hPt; have B5 := bnext B4 b5 (Nat.le_refl _))
                | (refine at_putM (by rfl) _ _ (by rfl) gb k n n _ _ (by rfl) (by omega) X (by rfl) (hIw.later B5) hlt ?_; intro w6 r6 s6))
              have J := fin w5 w6 X B5 r6 s6 hb.out
              go_wp2_with fail
              go_roundw
              case rel => exact ⟨k + 1, by omega, by go_num, J⟩
              case measure => simp [intOf]; omega
          · have k4 : ¬ K = 3 := fun e => k3 (.inl e)
            have k5 : ¬ K = 4 := fun e => k3 (.inr e)
            have hb : Hid (blkAt s (k : Int) = Blk.zero) := by
              show _ = _
              rw [e0.out, if_neg k1, if_neg k2, if_neg k4, if_neg k5]
            clear e0 k3
            go_wp2_with (first
              | (refine at_getG (by rfl) _ (by rfl) g1 (by rfl) s hIg ?_)
              | (go_at_call 32; refine (hWk _).mono ?_; rintro e w2 ⟨rfl, b2⟩; clear hWk)
              | (refine at_newC 84 3 _ srtPr (by rfl) (by rfl) ?_; intro g3 w3 a3 z3 r3 b3)
              | (refine at_putC 84 3 _ srtPr (by rfl) _ _ (by rfl) g3 (by rfl) [.int .i64 K, .int .i64 Gk, .int .i64 Ik] (by rfl) rfl (by intro v hv; simp at hv; rcases hv with rfl | rfl | rfl <;> rfl) _ r3 (by rfl) ?_; intro w4 r4 s4
                 have hg3 := b2.size
                 have B4 : Below wr.heap.size wr w4 := ((Stp.of_below (bnext b2 b3 (Nat.le_refl _)) (fun _ => False)).next s4 (fun x e => .inr (by omega))).below (Nat.le_refl _) (fun x e => e.elim)
                 have c0 := r4.cell 0 _ rfl))
            have J := fin0 w4 B4 hb.out
            go_wp2_with fail
            go_roundw
            case rel => exact ⟨k + 1, by omega, by go_num, J⟩
            case measure => simp [intOf]; omega
    · have hk' : k = n := by omega
      subst hk'
      have hJ : Hid (Wd wr gb k k (blkL s k)) := by
        show Wd _ _ _ _ _
        rw [← blkK_all]; exact I.w
      have hB := I.b
      clear I
      go_wp2_with fail
      go_returns
      exact ⟨_, rfl, hub, hJ.out, hB⟩
set_option maxRecDepth 1000000
def wG : Gm := ⟨1, 1, 6⟩
def wD : DS := (DS.new 11).load (blkL wG 11)
def wP : PS := PS.fresh.turn
def wX : WS := WS.turn ⟨0, 0, 0⟩ 0 PS.fresh
def wV0 : VZ := VZ.new wD wP wX 4
theorem w_find : fdE (shw wD) = 0 := by decide +kernel
theorem w_tot : wG.total = ((11 : Nat) : Int) := by decide +kernel
theorem w_ok0 : VOk 3 0 wV0 := by
  refine ⟨CZ.new_ok (by omega) (by omega) (fun i => ?_) (fun s h => ?_), rfl, Int.le_refl _, (fun p hp => by cases hp)⟩
  · exact Nat.zero_le _
  · injection h with h; subst h; exact turn_okAt fresh_ok
set_option maxRecDepth 100000
set_option maxHeartbeats 4000000 in
theorem shape_zero (u : World) : Calls Tryz.prog 10 #[.int .u16 0] u fun e w' => e = .returned (.agg #[.int .i64 1, .int .i64 1, .int .i64 6]) ∧ Below u.heap.size u w' := by
  go_enter Tryz.func10, Tryz.ntmps10
  go_wp2_with (first
    | (refine at_newG (by rfl) (by rfl) ?_; intro g2 w2 a2 z2 r2 b2)
    | (refine at_putG (by rfl) _ _ (by rfl) g2 (by rfl) ⟨1, 1, 6⟩ (by rfl) _ r2 ?_; intro w3 r3 s3))
  refine bodyPost_ret (retG1 Tryz.results10 rfl r3) rfl ⟨rfl, ((Stp.of_below b2 (fun _ => False)).next s3 (fun x e => .inr (by omega))).below (Nat.le_refl _) (fun x e => e.elim)⟩
theorem below_vol {u w : World} {A : VA} {V : VZ} {T X : Nat → Prop} (R : Stp X u w) (hX : ∀ x, X x → x = 1 ∨ u.heap.size ≤ x) (h : Vo w A V T) (hz : A.z = u.heap[1]?) : Below u.heap.size u w := by
  obtain ⟨U, E, F, H, _⟩ := h
  refine ⟨R.os, R.tape, R.output, R.size, fun k hk => ?_⟩
  by_cases h0 : k = 1
  · subst h0; rw [H.z0, hz]
  · exact R.block k hk (fun e => by rcases hX k e with e | e; exact h0 e; omega)
end Go.Proofs.YtgdnhkdfcjpdiaaGreatDoor
